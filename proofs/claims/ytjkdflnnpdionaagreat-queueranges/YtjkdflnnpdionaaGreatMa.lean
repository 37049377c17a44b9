import Derived.Test.YtjkdflnnpdionaaGreatRows
import Derived.WalkKit
import Derived.WalkSpells
import Derived.WalkLawsBesides
import Derived.Deep.QuietTactic
import Derived.BigQuiet
import Derived.Lib.BitFns
import Derived.Laws.Rows
import Derived.Laws.BytesArg
import Derived.Laws.CopyOwn
import Derived.Deep.RegionHeld3
import Derived.Laws.AppendOwnNone
import Derived.ArgAppend
import Derived.OwnWalk
import Derived.Deep.AppendLies
/-
  Contracts of the small functions: num, the widths, Len, PageSize, Pages.
-/
namespace Go.Proofs.YtjkdflnnpdionaaGreat
open Go.RowKit
set_option linter.unusedVariables false

theorem tab255 (i : Nat) (h : i < Lib.len8tab.size) (e : i = 255) : (Lib.len8tab[i]).toNat = 8 := by
  subst e
  kernel_rfl

set_option maxRecDepth 100000 in
theorem len64_8 (x : Int) (H : Hid (x = 255)) (h1 : 255 ≤ x) (h2 : x ≤ 255) (w : World) : Calls Tryz.prog 218 #[.int .u64 x] w fun e w' => e = .returned (.int .i64 8) ∧ w = w' := by
  have hsz : Lib.len8tab.size = 256 := by kernel_rfl
  go_enter Tryz.func218, Tryz.ntmps218
  go_wp2
  go_ret
  refine ⟨congrArg Ending.returned (congrArg (Value.int IntKind.i64) ?_), rfl⟩
  rw [tab255 _ _ (by omega)]
  kernel_rfl

set_option maxRecDepth 100000 in
theorem len64_16 (x : Int) (H : Hid (x = 65535)) (h1 : 65535 ≤ x) (h2 : x ≤ 65535) (w : World) : Calls Tryz.prog 218 #[.int .u64 x] w fun e w' => e = .returned (.int .i64 16) ∧ w = w' := by
  have hsz : Lib.len8tab.size = 256 := by kernel_rfl
  go_enter Tryz.func218, Tryz.ntmps218
  go_wp2
  go_ret
  refine ⟨congrArg Ending.returned (congrArg (Value.int IntKind.i64) ?_), rfl⟩
  rw [tab255 _ _ (by omega)]
  kernel_rfl

set_option maxRecDepth 100000 in
theorem len64_32 (x : Int) (H : Hid (x = 4294967295)) (h1 : 4294967295 ≤ x) (h2 : x ≤ 4294967295) (w : World) : Calls Tryz.prog 218 #[.int .u64 x] w fun e w' => e = .returned (.int .i64 32) ∧ w = w' := by
  have hsz : Lib.len8tab.size = 256 := by kernel_rfl
  go_enter Tryz.func218, Tryz.ntmps218
  go_wp2
  go_ret
  refine ⟨congrArg Ending.returned (congrArg (Value.int IntKind.i64) ?_), rfl⟩
  rw [tab255 _ _ (by omega)]
  kernel_rfl

set_option maxRecDepth 100000 in
theorem len64_64 (x : Int) (H : Hid (x = 18446744073709551615)) (h1 : 18446744073709551615 ≤ x) (h2 : x ≤ 18446744073709551615) (w : World) : Calls Tryz.prog 218 #[.int .u64 x] w fun e w' => e = .returned (.int .i64 64) ∧ w = w' := by
  have hsz : Lib.len8tab.size = 256 := by kernel_rfl
  go_enter Tryz.func218, Tryz.ntmps218
  go_wp2
  go_ret
  refine ⟨congrArg Ending.returned (congrArg (Value.int IntKind.i64) ?_), rfl⟩
  rw [tab255 _ _ (by omega)]
  kernel_rfl

set_option maxRecDepth 100000 in
theorem width_90 (w : World) : Calls Tryz.prog 206 #[] w fun e w' => e = .returned (.int .i64 4) ∧ w = w' := by
  have hx : bits BinOp.xor IntKind.u32 IntKind.u32.max 0 = 4294967295 := by kernel_rfl
  have hs : IntKind.u32.signed = false := rfl
  go_enter Tryz.func206, Tryz.ntmps206
  go_wp2_with fail
  refine (len64_32 _ (show _ = _ from rfl) (by omega) (by omega) _).mono ?_
  rintro e w' ⟨rfl, rfl⟩
  go_wp2
  go_ret
  exact ⟨rfl, rfl⟩

end Go.Proofs.YtjkdflnnpdionaaGreat
/-
  The contract of (*Arena).part: the bytes are there, or they are not.
-/
namespace Go.Proofs.YtjkdflnnpdionaaGreat
open Go.RowKit
set_option linter.unusedVariables false

theorem mask_i64 (k : Nat) (hk : k ≤ 30) (x : Int) (h0 : 0 ≤ x) (h1 : x < 9223372036854775808) : bits .and .i64 x ((2 : Int) ^ k - 1) = x % (2 : Int) ^ k := by
  have := bits_mask .i64 63 (by decide) (fun n h0 h1 => by rw [IntKind.wrap_i64]; omega) k (by omega) x h0 (by omega)
  exact this

set_option maxHeartbeats 400000 in
theorem part_yes (b g N ps : Nat) (x n r : Int) (w : World) (hps : 4096 ≤ ps ∧ ps ≤ 1048576) (hN : N ≤ 1073741824)
    (hc0 : w.cell? ⟨b, 0, none⟩ = some (.int .i64 ps)) (hc2 : w.cell? ⟨b, 2, none⟩ = some (.slice (some ⟨g, 0, none⟩) N N))
    (hm : bits .and .i64 x ((ps : Int) - 1) = r) (hr : 0 ≤ r) (h0 : 0 ≤ n) (h1 : 0 ≤ x) (h2 : n ≤ N - x) (h3 : r + n ≤ ps) :
    Calls Tryz.prog 190 #[.pointer (some ⟨b, 0, none⟩), .int .i64 x, .int .i64 n] w fun e w' => (∃ o, e = .returned (.tuple #[.slice (some ⟨g, o, none⟩) n.toNat (N - x.toNat), .bool true]) ∧ (0 < n → o = x.toNat)) ∧ ∃ q, w' = w.drewN q := by
  have hl : (x + n).toNat - x.toNat = n.toNat := by omega
  go_enter Tryz.func190, Tryz.ntmps190
  go_wp2
  go_quiet (fail)
  by_cases hx : N = x.toNat
  · have hx' : N - x.toNat = 0 := by omega
    clear hx
    go_wp2
    go_ret2
    exact ⟨⟨0, by first | rfl | (rw [hx']; rfl) | (simp [hx']), fun h => by omega⟩, _, rfl⟩
  · go_wp2
    go_ret2
    exact ⟨⟨x.toNat, rfl, fun _ => rfl⟩, _, rfl⟩

set_option maxHeartbeats 400000 in
theorem part_no (b g N ps : Nat) (x n r : Int) (w : World) (hps : 4096 ≤ ps ∧ ps ≤ 1048576) (hN : N ≤ 1073741824)
    (hc0 : w.cell? ⟨b, 0, none⟩ = some (.int .i64 ps)) (hc2 : w.cell? ⟨b, 2, none⟩ = some (.slice (some ⟨g, 0, none⟩) N N))
    (hm : 0 ≤ x → bits .and .i64 x ((ps : Int) - 1) = r) (hr : 0 ≤ r ∧ r ≤ ps) (hx : x ≤ 9223372036854775807) (h : n < 0 ∨ x < 0 ∨ N - x < n ∨ ps < r + n) :
    Calls Tryz.prog 190 #[.pointer (some ⟨b, 0, none⟩), .int .i64 x, .int .i64 n] w fun e w' => e = .returned (.tuple #[.slice none 0 0, .bool false]) ∧ ∃ q, w' = w.drewN q := by
  by_cases h0 : n < 0
  · clear h hm
    go_enter Tryz.func190, Tryz.ntmps190
    go_wp2
    go_ret2
    exact ⟨rfl, 0, rfl⟩
  by_cases h1 : x < 0
  · clear h hm
    go_enter Tryz.func190, Tryz.ntmps190
    go_wp2
    go_ret2
    exact ⟨rfl, 0, rfl⟩
  have hm := hm (by omega)
  by_cases h2 : N - x < n
  · clear h hm
    go_enter Tryz.func190, Tryz.ntmps190
    go_wp2
    go_ret2
    exact ⟨rfl, 0, rfl⟩
  have h3 : ps < r + n := by omega
  clear h
  go_enter Tryz.func190, Tryz.ntmps190
  go_wp2
  go_quiet (fail)
  go_wp2
  go_ret2
  exact ⟨rfl, _, rfl⟩

end Go.Proofs.YtjkdflnnpdionaaGreat
/-
  What an arena is in memory; laws on the row of bytes.
-/
namespace Go.Proofs.YtjkdflnnpdionaaGreat
open Go.RowKit
set_option linter.unusedVariables false

/-- The bytes laid, as values. -/
def vals (zs : List Int) : Array Value := (zs.map (Value.int .u8)).toArray

/-- An arena in memory: its block b, the block g of its bytes, a page's size, the pages, the bytes. -/
structure IsA (w : World) (b g ps pages : Nat) (zs : List Int) : Prop where
  hb : w.heap[b]? = some (.cells #[.int .i64 ps, .int .i64 pages, .slice (some ⟨g, 0, none⟩) zs.length zs.length] 234 (0, 0))
  hg : w.heap[g]? = some (.cells (vals zs) 5 (0, 0))
  hne : b ≠ g
  hps : ∃ k, ps = 2 ^ k ∧ 12 ≤ k ∧ k ≤ 20
  hN : zs.length = ps * pages
  hpg : 1 ≤ pages ∧ pages ≤ 1024
  hz : ∀ z ∈ zs, 0 ≤ z ∧ z < 256

/-- P1.2, in numbers. -/
def There (ps N : Nat) (x n : Int) : Prop := 0 ≤ n ∧ 0 ≤ x ∧ n ≤ N - x ∧ x % ps + n ≤ ps

theorem IsA.c0 {w : World} {b g ps pages : Nat} {zs : List Int} (h : IsA w b g ps pages zs) : w.cell? ⟨b, 0, none⟩ = some (.int .i64 ps) := by
  rw [cell_of_row w b 0 _ _ _ h.hb]; rfl
theorem IsA.c1 {w : World} {b g ps pages : Nat} {zs : List Int} (h : IsA w b g ps pages zs) : w.cell? ⟨b, 1, none⟩ = some (.int .i64 pages) := by
  rw [cell_of_row w b 1 _ _ _ h.hb]; rfl
theorem IsA.c2 {w : World} {b g ps pages : Nat} {zs : List Int} (h : IsA w b g ps pages zs) : w.cell? ⟨b, 2, none⟩ = some (.slice (some ⟨g, 0, none⟩) zs.length zs.length) := by
  rw [cell_of_row w b 2 _ _ _ h.hb]; rfl
theorem vals_get (zs : List Int) (i : Nat) (h : i < zs.length) : (vals zs)[i]? = some (.int .u8 (zs.getD i 0)) := by
  simp [vals, List.getD, h]
theorem cell_of_vals {w : World} {g : Nat} {zs : List Int} (h : w.heap[g]? = some (.cells (vals zs) 5 (0, 0))) (i : Nat) (hi : i < zs.length) : w.cell? ⟨g, i, none⟩ = some (.int .u8 (zs.getD i 0)) := by
  rw [cell_of_row w g i _ _ _ h]; exact vals_get zs i hi
theorem set_vals {w : World} {g : Nat} {zs : List Int} (h : w.heap[g]? = some (.cells (vals zs) 5 (0, 0))) (i : Nat) (v : Int) : (w.setCell ⟨g, i, none⟩ (.int .u8 v)).heap[g]? = some (.cells (vals (zs.set i v)) 5 (0, 0)) := by
  rw [heap_setCell_same w g i _ _ _ h]
  simp [vals]
theorem IsA.bounds {w : World} {b g ps pages : Nat} {zs : List Int} (h : IsA w b g ps pages zs) : (4096 ≤ ps ∧ ps ≤ 1048576) ∧ zs.length ≤ 1073741824 := by
  obtain ⟨k, hk, h1, h2⟩ := h.hps
  have a : 2 ^ 12 ≤ 2 ^ k := Nat.pow_le_pow_right (by omega) h1
  have c : 2 ^ k ≤ 2 ^ 20 := Nat.pow_le_pow_right (by omega) h2
  rw [← hk] at a c
  refine ⟨⟨a, c⟩, ?_⟩
  rw [h.hN]
  calc ps * pages ≤ 2 ^ 20 * 1024 := Nat.mul_le_mul c h.hpg.2
    _ = 1073741824 := by decide
theorem IsA.mask {w : World} {b g ps pages : Nat} {zs : List Int} (h : IsA w b g ps pages zs) (x : Int) (h0 : 0 ≤ x) (h1 : x < 9223372036854775808) : bits .and .i64 x ((ps : Int) - 1) = x % ps := by
  obtain ⟨k, hk, h2, h3⟩ := h.hps
  have := mask_i64 k (by omega) x h0 h1
  rw [hk]; simpa using this
theorem IsA.mod {w : World} {b g ps pages : Nat} {zs : List Int} (h : IsA w b g ps pages zs) (x : Int) : 0 ≤ x % ps ∧ x % ps < ps := by
  have := h.bounds
  exact ⟨Int.emod_nonneg _ (by omega), Int.emod_lt_of_pos _ (by omega)⟩

/-- 'part' of an arena: there. -/
theorem IsA.part_yes {w : World} {b g ps pages : Nat} {zs : List Int} (h : IsA w b g ps pages zs) (x n : Int) (ht : There ps zs.length x n) :
    Calls Tryz.prog 190 #[.pointer (some ⟨b, 0, none⟩), .int .i64 x, .int .i64 n] w fun e w' => (∃ o, e = .returned (.tuple #[.slice (some ⟨g, o, none⟩) n.toNat (zs.length - x.toNat), .bool true]) ∧ (0 < n → o = x.toNat)) ∧ ∃ q, w' = w.drewN q := by
  obtain ⟨h1, h2, h3, h4⟩ := ht
  have hb := h.bounds
  have hm := h.mod x
  exact YtjkdflnnpdionaaGreat.part_yes b g zs.length ps x n (x % ps) w hb.1 hb.2 h.c0 h.c2 (h.mask x h2 (by omega)) hm.1 h1 h2 h3 h4

/-- 'part' of an arena: not there. -/
theorem IsA.part_no {w : World} {b g ps pages : Nat} {zs : List Int} (h : IsA w b g ps pages zs) (x n : Int) (hx : x < 9223372036854775808) (ht : ¬ There ps zs.length x n) :
    Calls Tryz.prog 190 #[.pointer (some ⟨b, 0, none⟩), .int .i64 x, .int .i64 n] w fun e w' => e = .returned (.tuple #[.slice none 0 0, .bool false]) ∧ ∃ q, w' = w.drewN q := by
  have hb := h.bounds
  have hm := h.mod x
  refine YtjkdflnnpdionaaGreat.part_no b g zs.length ps x n (x % ps) w hb.1 hb.2 h.c0 h.c2 (fun h0 => h.mask x h0 hx) ⟨hm.1, by omega⟩ (by omega) ?_
  simp only [There] at ht
  omega

/-! The frame: new blocks, and writes to one row alone. -/
theorem gb_refl (w : World) (row : Option Nat) : w.grownBy w row := ⟨rfl, rfl, rfl, Nat.le_refl _, fun _ _ _ => rfl⟩
theorem gb_trans {a b c : World} {row : Option Nat} (h : a.grownBy b row) (k : b.grownBy c row) : a.grownBy c row :=
  ⟨k.os.trans h.os, k.tape.trans h.tape, k.output.trans h.output, Nat.le_trans h.size k.size, fun i hi hn => (k.block i (Nat.lt_of_lt_of_le hi h.size) hn).trans (h.block i hi hn)⟩
theorem gb_drewN {a b : World} {row : Option Nat} (h : a.grownBy b row) (n : Nat) : a.grownBy (b.drewN n) row := ⟨h.os, h.tape, h.output, h.size, h.block⟩
theorem gb_drew {a b : World} {row : Option Nat} (h : a.grownBy b row) : a.grownBy b.drew row := ⟨h.os, h.tape, h.output, h.size, h.block⟩
theorem gb_none {a b : World} (row : Option Nat) (h : a.grownBy b none) : a.grownBy b row := ⟨h.os, h.tape, h.output, h.size, fun i hi _ => h.block i hi (by simp)⟩
theorem gb_setCell {a b : World} {g i : Nat} (h : a.grownBy b (some g)) (v : Value) : a.grownBy (b.setCell ⟨g, i, none⟩ v) (some g) :=
  ⟨h.os, h.tape, h.output, by simpa using h.size, fun k hk hn => by
    rw [heap_setCell_other _ _ _ _ (by intro e; exact hn (by rw [e]))]; exact h.block k hk hn⟩
theorem gb_alloc {a b : World} {row : Option Nat} (h : a.grownBy b row) (o : Obj) : a.grownBy (b.alloc o) row :=
  gb_trans h (World.grownBy_alloc b o row)

/-- A number laid: its lowest byte last. -/
def putL (zs : List Int) (x : Nat) : Nat → Int → List Int
  | 0, _ => zs
  | k + 1, v => putL (zs.set (x + k) (v % 256)) x k (v / 256)
/-- A number told: so many bytes more from place i on, behind the sum so far. -/
def getL (zs : List Int) (x : Nat) : Nat → Nat → Int → Int
  | 0, _, s => s
  | k + 1, i, s => getL zs x k (i + 1) (256 * s + zs.getD (x + i) 0)
theorem length_putL (x : Nat) : ∀ (k : Nat) (zs : List Int) (v : Int), (putL zs x k v).length = zs.length
  | 0, _, _ => rfl
  | k + 1, zs, v => by simp [putL, length_putL x k]
theorem putL_mem (x : Nat) : ∀ (k : Nat) (zs : List Int) (v : Int), (∀ z ∈ zs, 0 ≤ z ∧ z < 256) → ∀ z ∈ putL zs x k v, 0 ≤ z ∧ z < 256
  | 0, _, _, h => h
  | k + 1, zs, v, h => by
    refine putL_mem x k _ _ fun z hz => ?_
    rcases List.mem_or_eq_of_mem_set hz with h1 | h1
    · exact h z h1
    · subst h1; omega

/-- An arena stays one where its bytes alone have turned. -/
theorem IsA.turned {w w' : World} {b g ps pages : Nat} {zs zs' : List Int} (h : IsA w b g ps pages zs) (hf : w.grownBy w' (some g)) (hg : w'.heap[g]? = some (.cells (vals zs') 5 (0, 0)))
    (hl : zs'.length = zs.length) (hz : ∀ z ∈ zs', 0 ≤ z ∧ z < 256) : IsA w' b g ps pages zs' := by
  have hlt : b < w.heap.size := by
    have := h.hb
    exact (Array.getElem?_eq_some_iff.1 this).1
  exact ⟨by rw [hf.block b hlt (by simpa using h.hne), hl]; exact h.hb, hg, h.hne, h.hps, by rw [hl]; exact h.hN, h.hpg, hz⟩
theorem IsA.kept {w w' : World} {b g ps pages : Nat} {zs : List Int} (h : IsA w b g ps pages zs) {row : Option Nat} (hf : w.grownBy w' row) (h1 : some b ≠ row) (h2 : some g ≠ row) : IsA w' b g ps pages zs := by
  have hlt : b < w.heap.size := (Array.getElem?_eq_some_iff.1 h.hb).1
  have hlg : g < w.heap.size := (Array.getElem?_eq_some_iff.1 h.hg).1
  exact ⟨by rw [hf.block b hlt h1]; exact h.hb, by rw [hf.block g hlg h2]; exact h.hg, h.hne, h.hps, h.hN, h.hpg, h.hz⟩

def pw : Nat → Int
  | 0 => 1
  | k + 1 => 256 * pw k
theorem pw_le : ∀ i : Fin 8, pw i.val ≤ 72057594037927936 := by decide +kernel
theorem pow_step (i : Nat) (s z : Int) (hi : i < 8) (h : s < pw i) (hz : z < 256) : 256 * s + 255 < 18446744073709551616 ∧ 256 * s + z < pw (i + 1) := by
  have e : pw (i + 1) = 256 * pw i := rfl
  have a := pw_le ⟨i, hi⟩
  simp only at a
  refine ⟨by omega, by rw [e]; omega⟩
theorem or_u64 (s z : Int) (h0 : 0 ≤ s) (h : 256 * s + 255 < 18446744073709551616) (hz : 0 ≤ z ∧ z < 256) : bits .or .u64 (s * 256) z = 256 * s + z := by
  rw [u64_or _ _ (by omega) (by omega) hz.1 (by omega), nat_join 8 _ _ (by omega) (by omega)]
  omega
theorem getL_stop (zs : List Int) (x n i : Nat) (s : Int) (h : n ≤ i) : getL zs x (n - i) i s = s := by
  have : n - i = 0 := by omega
  rw [this]; rfl
theorem getL_go (zs : List Int) (x n i : Nat) (s : Int) (h : i < n) : getL zs x (n - i) i s = getL zs x (n - (i + 1)) (i + 1) (256 * s + zs.getD (x + i) 0) := by
  have : n - i = (n - (i + 1)) + 1 := by omega
  rw [this]; rfl
theorem getD_mem {zs : List Int} {i : Nat} (h : i < zs.length) : zs.getD i 0 ∈ zs := by
  rw [List.getD_eq_getElem?_getD, List.getElem?_eq_getElem h]
  exact List.getElem_mem _

end Go.Proofs.YtjkdflnnpdionaaGreat
/-
  bits.OnesCount, mayBePage, New.
-/
namespace Go.Proofs.YtjkdflnnpdionaaGreat
open Go.RowKit
set_option linter.unusedVariables false

def ones1 (x : Int) : Int := IntKind.u64.wrap (bits BinOp.and IntKind.u64 (x / 2) 6148914691236517205 + bits BinOp.and IntKind.u64 x 6148914691236517205)
def ones2 (y : Int) : Int := IntKind.u64.wrap (bits BinOp.and IntKind.u64 (y / 4) 3689348814741910323 + bits BinOp.and IntKind.u64 y 3689348814741910323)
def ones3 (z : Int) : Int := bits BinOp.and IntKind.u64 (IntKind.u64.wrap (z / 16 + z)) 1085102592571150095
def ones4 (a : Int) : Int := IntKind.u64.wrap (a + a / 256)
def ones5 (a : Int) : Int := IntKind.u64.wrap (a + a / 65536)
def ones6 (a : Int) : Int := IntKind.u64.wrap (a + a / 4294967296)
/-- What bits.OnesCount64 reckons, step by step. -/
def onesF (x : Int) : Int := bits BinOp.and IntKind.i64 (wrap64 (ones6 (ones5 (ones4 (ones3 (ones2 (ones1 x))))))) 127

set_option maxRecDepth 100000 in
set_option maxHeartbeats 1000000 in
theorem ones64_any (x : Int) (h0 : 0 ≤ x) (h1 : x < 2097152) (w : World) : Calls Tryz.prog 216 #[.int .u64 x] w fun e w' => e = .returned (.int .i64 (onesF x)) ∧ w = w' := by
  go_enter Tryz.func216, Tryz.ntmps216
  go_wp2
  go_ret
  exact ⟨rfl, rfl⟩

theorem ones_any (x : Int) (h0 : 0 ≤ x) (h1 : x < 2097152) (w : World) : Calls Tryz.prog 203 #[.int .u64 x] w fun e w' => e = .returned (.int .i64 (onesF x)) ∧ w = w' := by
  go_enter Tryz.func203, Tryz.ntmps203
  go_wp2_with (go_at_call 216; refine (ones64_any x h0 h1 _).mono ?_; rintro e w' ⟨rfl, rfl⟩)
  go_ret
  exact ⟨rfl, rfl⟩

/-- May a page have so many bytes? -/
def pageB (n : Int) : Bool := decide (4096 ≤ n) && decide (n ≤ 1048576) && (onesF n == 1)

theorem mayBe_any (n : Int) (w : World) : Calls Tryz.prog 173 #[.int .i64 n] w fun e w' => e = .returned (.bool (pageB n)) ∧ w = w' := by
  by_cases h1 : 4096 ≤ n
  · by_cases h2 : n ≤ 1048576
    · obtain ⟨v, hv⟩ : ∃ v, v = onesF n := ⟨_, rfl⟩
      have hp : Hid (pageB n = (v == 1)) := by
        subst hv
        show _ = _
        simp [pageB, h1, h2]
      have HV : Hid (v = onesF n) := hv
      clear hv
      go_enter Tryz.func173, Tryz.ntmps173
      go_wp2_with (go_at_call 203; refine (ones_any n (by omega) (by omega) _).mono ?_; rintro e w' ⟨rfl, rfl⟩; rw [← HV.out])
      go_ret
      rw [hp.out]
      exact ⟨rfl, rfl⟩
    · have hp : Hid (pageB n = false) := by show _ = _; simp [pageB, h2]
      go_enter Tryz.func173, Tryz.ntmps173
      go_wp2
      go_ret
      rw [hp.out]
      exact ⟨rfl, rfl⟩
  · have hp : Hid (pageB n = false) := by show _ = _; simp [pageB, h1]
    go_enter Tryz.func173, Tryz.ntmps173
    go_wp2
    go_ret
    rw [hp.out]
    exact ⟨rfl, rfl⟩

theorem new_no (n m : Int) (w : World) (h : pageB n = false ∨ m < 1 ∨ 1024 < m) : Calls Tryz.prog 118 #[.int .i64 n, .int .i64 m] w fun e w' => e = .returned (.tuple #[.pointer none, .int .i64 1]) ∧ w = w' := by
  obtain ⟨v, hv⟩ : ∃ v, v = pageB n := ⟨_, rfl⟩
  rw [← hv] at h
  have HV : Hid (v = pageB n) := hv
  clear hv
  cases v
  · clear h
    go_enter Tryz.func118, Tryz.ntmps118
    go_wp2_with (go_at_call 173; refine (mayBe_any n _).mono ?_; rintro e w' ⟨rfl, rfl⟩; rw [← HV.out])
    go_ret2
    exact ⟨rfl, rfl⟩
  · by_cases h1 : m < 1
    · clear h
      go_enter Tryz.func118, Tryz.ntmps118
      go_wp2_with (go_at_call 173; refine (mayBe_any n _).mono ?_; rintro e w' ⟨rfl, rfl⟩; rw [← HV.out])
      go_ret2
      exact ⟨rfl, rfl⟩
    · have h2 : 1024 < m := by simpa [h1] using h
      clear h
      go_enter Tryz.func118, Tryz.ntmps118
      go_wp2_with (go_at_call 173; refine (mayBe_any n _).mono ?_; rintro e w' ⟨rfl, rfl⟩; rw [← HV.out])
      go_ret2
      exact ⟨rfl, rfl⟩

theorem Tryz.info5 : (Tryz.prog.info? 5).map (fun i => (i.zero, i.size, i.bytes)) = some (some (.int .u8 0), 1, 1) := by kernel_rfl

theorem made_zeros (N : Nat) : madeCells (Value.int .u8 0).cells N = vals (List.replicate N 0) := by
  apply Array.ext'
  apply List.ext_getElem?
  intro i
  by_cases h : i < N <;> simp [madeCells, Value.cells, vals, h, Nat.mod_one]

theorem run_make_bytes (N : Nat) (h : N ≤ 281474976710656) (w : World) : (Instr.makeSlice 60 (.int .i64 N) (.int .i64 N)).run Tryz.prog w = .ok (.slice (some ⟨w.heap.size, 0, none⟩) N N) (w.alloc (.cells (vals (List.replicate N 0)) 5)) := by
  obtain ⟨i0, hi, hz0, hz1, hz2⟩ := info_parts Tryz.info5
  have := run_make (P := Tryz.prog) w 60 5 i0 (.int .u8 0) Tryz.underlying60 hi hz0 .i64 .i64 N N (by omega) (by omega) (by rw [hz2]; omega) (by omega)
  rw [this, hz1]
  simp [made_zeros]

theorem new_yes (ps m : Nat) (w : World) (hk : ∃ k, ps = 2 ^ k ∧ 12 ≤ k ∧ k ≤ 20) (hp : pageB (ps : Int) = true) (hm : 1 ≤ m ∧ m ≤ 1024) :
    Calls Tryz.prog 118 #[.int .i64 ps, .int .i64 m] w fun e w' => e = .returned (.tuple #[.pointer (some ⟨w.heap.size + 1, 0, none⟩), .int .i64 0]) ∧
      w.grownBy w' none ∧ IsA w' (w.heap.size + 1) w.heap.size ps m (List.replicate (ps * m) 0) := by
  have HK : Hid (∃ k, ps = 2 ^ k ∧ 12 ≤ k ∧ k ≤ 20) := hk
  have hb : ps ≤ 1048576 := by
    obtain ⟨k, rfl, _, h2⟩ := hk
    exact Nat.pow_le_pow_right (n := 2) (j := 20) (by omega) h2
  have hN : ps * m ≤ 1073741824 := Nat.le_trans (Nat.mul_le_mul hb hm.2) (by decide)
  obtain ⟨N, hN'⟩ : ∃ N, N = ps * m := ⟨_, rfl⟩
  have HN : Hid (N = ps * m) := hN'
  have hNi : (ps : Int) * m = N := by rw [hN']; simp
  rw [← hN'] at hN ⊢
  have hmk := run_make_bytes N (by omega)
  clear hN' hk
  go_enter Tryz.func118, Tryz.ntmps118
  go_wp2_with (go_at_call 173; refine (mayBe_any _ _).mono ?_; rintro e w' ⟨rfl, rfl⟩; rw [hp])
  go_ret2
  refine ⟨rfl, gb_alloc (gb_alloc (gb_refl _ _) _) _, ?_⟩
  have hh : ∀ (o1 o2 : Obj), ((w.alloc o1).alloc o2).heap[w.heap.size + 1]? = some o2 := fun o1 o2 => heap_alloc2_new w o1 o2
  refine ⟨by rw [hh]; simp, by rw [heap_alloc2_old], by omega, HK.out, by rw [← HN.out]; simp, hm, ?_⟩
  intro z hz
  have := List.eq_of_mem_replicate hz
  omega

theorem page4096 : pageB ((4096 : Nat) : Int) = true := by kernel_rfl
theorem page8192 : pageB ((8192 : Nat) : Int) = true := by kernel_rfl
theorem page16384 : pageB ((16384 : Nat) : Int) = true := by kernel_rfl

end Go.Proofs.YtjkdflnnpdionaaGreat
/-
  Bytes in a slice value; equality of two.
-/
namespace Go.Proofs.YtjkdflnnpdionaaGreat
open Go.RowKit
set_option linter.unusedVariables false

def isBytes (xs : List Int) : Prop := ∀ z ∈ xs, 0 ≤ z ∧ z < 256

/-- The slice (a, n, c) holds the bytes xs in this world. -/
def Has (w : World) (a : Option Addr) (n : Nat) (xs : List Int) : Prop :=
  xs.length = n ∧ (0 < n → ∃ b o, a = some ⟨b, o, none⟩ ∧ ∀ i, i < n → w.cell? ⟨b, o + i, none⟩ = some (.int .u8 (xs.getD i 0)))

theorem conv_zero {P : Program} (w : World) (src e : TypeId) (hs : P.underlying src = some (.slice e)) (he : P.underlying e = some (.int .u8)) (a : Option Addr) (c : Nat) (dst : TypeId) (hd : P.underlying dst = some .string) :
    (convert src dst (.slice a 0 c)).run P w = .ok (.string (strOfNums [])) w := by
  cases a with
  | none => exact run_convert_bytes_nil w src e hs he 0 c dst hd
  | some a =>
    rw [run_convert_bytes_string w src dst e _ 0 c hs he hd]
    simp [Conv.bytesToString, loadCells, loadCellsFrom]
    rfl

theorem Has.conv {w : World} {a : Option Addr} {n : Nat} {xs : List Int} (h : Has w a n xs) (c : Nat) : (convert 60 9 (.slice a n c)).run Tryz.prog w = .ok (.string (strOfNums xs)) w := by
  obtain ⟨hl, hc⟩ := h
  rcases Nat.eq_zero_or_pos n with hn | hn
  · subst hn
    obtain rfl : xs = [] := List.eq_nil_of_length_eq_zero hl
    exact conv_zero w 60 5 Tryz.underlying60 Tryz.underlying5 a c 9 Tryz.underlying9
  · obtain ⟨b, o, rfl, hcc⟩ := hc hn
    exact run_convert_bytes_arg (P := Tryz.prog) w 60 5 Tryz.underlying60 Tryz.underlying5 b o n c xs hl hcc 9 Tryz.underlying9

theorem map_inj : ∀ {xs ys : List Int}, isBytes xs → isBytes ys → (xs.map fun n => UInt8.ofNat n.toNat) = (ys.map fun n => UInt8.ofNat n.toNat) → xs = ys
  | [], [], _, _, _ => rfl
  | [], _ :: _, _, _, h => by simp at h
  | _ :: _, [], _, _, h => by simp at h
  | x :: xs, y :: ys, hx, hy, h => by
    simp only [List.map_cons, List.cons.injEq] at h
    have a := hx x (by simp)
    have c := hy y (by simp)
    have e : (UInt8.ofNat x.toNat).toNat = (UInt8.ofNat y.toNat).toNat := by rw [h.1]
    simp only [UInt8.toNat_ofNat'] at e
    have e1 : x = y := by omega
    rw [e1, map_inj (fun z hz => hx z (by simp [hz])) (fun z hz => hy z (by simp [hz])) h.2]

theorem str_inj {xs ys : List Int} (hx : isBytes xs) (hy : isBytes ys) : ((strOfNums xs).toList == (strOfNums ys).toList) = decide (xs = ys) := by
  rw [ByteArray.toList_eq, ByteArray.toList_eq, strOfNums_data, strOfNums_data]
  by_cases h : xs = ys
  · subst h; simp
  · have : ¬ (xs.map fun n => UInt8.ofNat n.toNat) = (ys.map fun n => UInt8.ofNat n.toNat) := fun e => h (map_inj hx hy e)
    simp only [h, decide_false]
    exact beq_eq_false_iff_ne.2 this

theorem equal_67 {w : World} {a1 a2 : Option Addr} {n1 n2 : Nat} {xs ys : List Int} (h1 : Has w a1 n1 xs) (h2 : Has w a2 n2 ys) (hx : isBytes xs) (hy : isBytes ys) (c1 c2 : Nat) :
    Calls Tryz.prog 38 #[.slice a1 n1 c1, .slice a2 n2 c2] w fun e w' => e = .returned (.bool (decide (xs = ys))) ∧ w = w' := by
  have k1 := h1.conv c1
  have k2 := h2.conv c2
  have HS : Hid (((strOfNums xs).toList == (strOfNums ys).toList) = decide (xs = ys)) := str_inj hx hy
  go_enter Tryz.func38, Tryz.ntmps38
  go_wp2
  go_ret
  exact ⟨congrArg (fun b => Ending.returned (Value.bool b)) HS.out, rfl⟩

theorem Has.drewN {w : World} {a : Option Addr} {n : Nat} {xs : List Int} (h : Has w a n xs) (q : Nat) : Has (w.drewN q) a n xs := h

/-- A part of an arena's bytes. -/
def cut (zs : List Int) (x n : Nat) : List Int := (zs.drop x).take n
theorem length_cut {zs : List Int} {x n : Nat} (h : x + n ≤ zs.length) : (cut zs x n).length = n := by simp [cut]; omega
theorem getD_cut {zs : List Int} {x n i : Nat} (h : i < n) : (cut zs x n).getD i 0 = zs.getD (x + i) 0 := by
  simp [cut, h, List.getElem?_drop]
theorem isBytes_cut {zs : List Int} (h : isBytes zs) (x n : Nat) : isBytes (cut zs x n) := fun z hz => h z (List.mem_of_mem_drop (List.mem_of_mem_take hz))

theorem IsA.has {w : World} {b g ps pages : Nat} {zs : List Int} (h : IsA w b g ps pages zs) {x n : Int} (ht : There ps zs.length x n) {o : Nat} (ho : 0 < n → o = x.toNat) : Has w (some ⟨g, o, none⟩) n.toNat (cut zs x.toNat n.toNat) := by
  obtain ⟨h1, h2, h3, h4⟩ := ht
  refine ⟨length_cut (by omega), fun hn => ⟨g, o, rfl, fun i hi => ?_⟩⟩
  rw [ho (by omega), getD_cut hi]
  exact cell_of_vals h.hg _ (by omega)

end Go.Proofs.YtjkdflnnpdionaaGreat
/-
  Write and Move: bytes laid by copy.
-/
namespace Go.Proofs.YtjkdflnnpdionaaGreat
open Go.RowKit
set_option linter.unusedVariables false

/-- Bytes laid over others from a place on. -/
def lay (zs : List Int) (x : Nat) (ys : List Int) : List Int := zs.take x ++ ys ++ zs.drop (x + ys.length)
theorem length_lay {zs ys : List Int} {x : Nat} (h : x + ys.length ≤ zs.length) : (lay zs x ys).length = zs.length := by simp [lay]; omega
theorem isBytes_lay {zs ys : List Int} {x : Nat} (hz : isBytes zs) (hy : isBytes ys) : isBytes (lay zs x ys) := by
  intro z h
  simp only [lay, List.mem_append] at h
  rcases h with (h | h) | h
  · exact hz z (List.mem_of_mem_take h)
  · exact hy z h
  · exact hz z (List.mem_of_mem_drop h)
theorem vals_lay (zs : List Int) (x : Nat) (ys : List Int) : vals (lay zs x ys) = ((vals zs).toList.take x ++ (ys.map (Value.int .u8)) ++ (vals zs).toList.drop (x + (ys.map (Value.int .u8)).length)).toArray := by
  simp [vals, lay, List.map_take, List.map_drop]

theorem run_copy {w : World} {g : Nat} {zs : List Int} (hg : w.heap[g]? = some (.cells (vals zs) 5 (0, 0))) {x o n cap c : Nat} {a : Option Addr} {ys : List Int} (hy : Has w a n ys) (ho : 0 < n → o = x) (hx : x + n ≤ zs.length) (ty : TypeId) :
    (Builtin.copy_ #[60, 60] ty #[.slice (some ⟨g, o, none⟩) n cap, .slice a n c]).run Tryz.prog w = .ok (goInt n) (w.setRow g (vals (lay zs x ys))) := by
  have hs : (Tryz.prog.info? 5).map (·.size) = some 1 := by kernel_rfl
  obtain ⟨hl, hc⟩ := hy
  rcases Nat.eq_zero_or_pos n with hn | hn
  · subst hn
    obtain rfl : ys = [] := List.eq_nil_of_length_eq_zero hl
    rw [run_copy_none (P := Tryz.prog) w 60 60 ty 5 _ a 0 cap 0 c Tryz.underlying60 hs rfl]
    have e : lay zs x [] = zs := by simp [lay]
    rw [e, setRow_self w g _ _ _ hg]
    rfl
  · obtain ⟨bb, oo, rfl, hcc⟩ := hc hn
    have ho' := ho hn
    subst ho'
    have hlen : (ys.map (Value.int .u8)).length = n := by simpa using hl
    rw [run_copy_row (P := Tryz.prog) w 60 60 ty 5 g o n cap ⟨bb, oo, none⟩ n c (vals zs) 5 (ys.map (Value.int .u8)) Tryz.underlying60 hs hg (by rw [hlen]; simp)
      (fun j v hv => by
        have hj : j < n := by
          have := (List.getElem?_eq_some_iff.1 hv).1
          omega
        have := hcc j hj
        rw [show (⟨bb, oo, none⟩ : Addr).add j = ⟨bb, oo + j, none⟩ by simp [Addr.add], this]
        rw [← hv]
        simp [List.getD, show j < ys.length by omega])
      (by rw [hlen]; simp [vals]; omega) (fun v hv => by obtain ⟨z, _, rfl⟩ := List.mem_map.1 hv; rfl)]
    rw [hlen, vals_lay, hlen]

theorem gb_setRow {a b : World} {g : Nat} (h : a.grownBy b (some g)) (cs : Array Value) : a.grownBy (b.setRow g cs) (some g) :=
  ⟨h.os, h.tape, h.output, by simpa using h.size, fun k hk hn => by
    rw [setRow_other b g k cs (by intro e; exact hn (by rw [e]))]; exact h.block k hk hn⟩

theorem write_yes {w : World} {b g ps pages : Nat} {zs : List Int} (hA : IsA w b g ps pages zs) (x : Int) (a : Option Addr) (n c : Nat) (ys : List Int) (hy : Has w a n ys) (hb : isBytes ys) (hn : (n : Int) ≤ 9223372036854775807) (ht : There ps zs.length x n) :
    Calls Tryz.prog 193 #[.pointer (some ⟨b, 0, none⟩), .int .i64 x, .slice a n c] w fun e w' => e = .returned (.int .i64 0) ∧ w.grownBy w' (some g) ∧ IsA w' b g ps pages (lay zs x.toNat ys) := by
  have hx : x.toNat + n ≤ zs.length := by obtain ⟨_, _, h3, _⟩ := ht; omega
  go_enter Tryz.func193, Tryz.ntmps193
  go_wp2_with (go_at_call 190; go_must (refine (hA.part_yes x n ht).mono ?_); rintro e w' ⟨⟨o, rfl, ho⟩, q, rfl⟩; have hcp := run_copy (w := w.drewN q) (c := c) (cap := zs.length - x.toNat) hA.hg (hy.drewN q) (o := o) (x := x.toNat) (by simpa using ho) hx 3)
  go_ret
  have hf : w.grownBy ((w.drewN q).setRow g (vals (lay zs x.toNat ys))) (some g) := gb_setRow (gb_drewN (gb_refl _ _) q) _
  have hl : (lay zs x.toNat ys).length = zs.length := length_lay (by rw [hy.1]; exact hx)
  exact ⟨rfl, hf, hA.turned hf (setRow_heap _ _ _ _ _ _ hA.hg) hl (isBytes_lay hA.hz hb)⟩

theorem write_no {w : World} {b g ps pages : Nat} {zs : List Int} (hA : IsA w b g ps pages zs) (x : Int) (a : Option Addr) (n c : Nat) (hx : x ≤ 9223372036854775807) (hn : (n : Int) ≤ 9223372036854775807) (ht : ¬ There ps zs.length x n) :
    Calls Tryz.prog 193 #[.pointer (some ⟨b, 0, none⟩), .int .i64 x, .slice a n c] w fun e w' => e = .returned (.int .i64 20) ∧ w.grownBy w' none := by
  go_enter Tryz.func193, Tryz.ntmps193
  go_wp2_with (go_at_call 190; go_must (refine (hA.part_no x n (by omega) ht).mono ?_); rintro e w' ⟨rfl, q, rfl⟩)
  go_ret
  exact ⟨rfl, gb_drewN (gb_refl _ _) _⟩

end Go.Proofs.YtjkdflnnpdionaaGreat
/-
  Read, Page and Fill.
-/
namespace Go.Proofs.YtjkdflnnpdionaaGreat
open Go.RowKit
set_option linter.unusedVariables false

theorem Has.alloc {w : World} {a : Option Addr} {n : Nat} {xs : List Int} (h : Has w a n xs) (o : Obj) : Has (w.alloc o) a n xs := by
  refine ⟨h.1, fun hn => ?_⟩
  obtain ⟨b, o', e1, e2⟩ := h.2 hn
  refine ⟨b, o', e1, fun i hi => ?_⟩
  have := e2 i hi
  rw [World.cell?_alloc_lt _ _ _ (World.block_lt_of_cell? _ _ this)]
  exact this
theorem gb_mine {a b c : World} {g : Nat} (h : a.grownBy b none) (k : b.grownBy c (some g)) (hg : a.heap.size ≤ g) : a.grownBy c none :=
  ⟨k.os.trans h.os, k.tape.trans h.tape, k.output.trans h.output, Nat.le_trans h.size k.size, fun i hi _ => (k.block i (Nat.lt_of_lt_of_le hi h.size) (by simp; omega)).trans (h.block i hi (by simp))⟩
theorem lay_all {n : Nat} {ys : List Int} (h : ys.length = n) : lay (List.replicate n 0) 0 ys = ys := by
  simp [lay, h]

theorem read_yes {w : World} {b g ps pages : Nat} {zs : List Int} (hA : IsA w b g ps pages zs) (x n : Int) (ht : There ps zs.length x n) :
    Calls Tryz.prog 156 #[.pointer (some ⟨b, 0, none⟩), .int .i64 x, .int .i64 n] w fun e w' => e = .returned (.tuple #[.slice (some ⟨w.heap.size, 0, none⟩) n.toNat n.toNat, .int .i64 0]) ∧ w.grownBy w' none ∧
      w'.heap[w.heap.size]? = some (.cells (vals (cut zs x.toNat n.toNat)) 5 (0, 0)) := by
  have hbd := hA.bounds
  have hx : x.toNat + n.toNat ≤ zs.length := by obtain ⟨_, _, h3, _⟩ := ht; omega
  have hn0 : 0 ≤ n := ht.1
  obtain ⟨m, rfl⟩ := Int.eq_ofNat_of_zero_le hn0
  simp only [Int.toNat_natCast] at hx ⊢
  have hmk := run_make_bytes m (by omega)
  go_enter Tryz.func156, Tryz.ntmps156
  go_wp2_with fail
  refine (hA.part_yes x m ht).mono ?_
  rintro e w' ⟨⟨o, rfl, ho⟩, q, rfl⟩
  have hcp := run_copy (w := (w.drewN q).alloc (.cells (vals (List.replicate m 0)) 5)) (g := w.heap.size) (zs := List.replicate m 0) (x := 0) (o := 0) (cap := m) (c := zs.length - x.toNat) (heap_alloc_new (w.drewN q) _)
    (((hA.has ht ho).drewN q).alloc _) (fun _ => rfl) (by simp) 3
  simp only [Int.toNat_natCast] at hcp
  rw [lay_all (length_cut hx)] at hcp
  go_wp2
  go_ret2
  refine ⟨rfl, gb_mine (gb_alloc (gb_drewN (gb_refl _ _) q) _) (gb_setRow (gb_refl _ _) _) (Nat.le_refl _), ?_⟩
  exact setRow_heap _ _ _ _ _ _ (heap_alloc_new (w.drewN q) _)

theorem read_no {w : World} {b g ps pages : Nat} {zs : List Int} (hA : IsA w b g ps pages zs) (x n : Int) (hx : x ≤ 9223372036854775807) (ht : ¬ There ps zs.length x n) :
    Calls Tryz.prog 156 #[.pointer (some ⟨b, 0, none⟩), .int .i64 x, .int .i64 n] w fun e w' => e = .returned (.tuple #[.slice none 0 0, .int .i64 20]) ∧ w.grownBy w' none := by
  go_enter Tryz.func156, Tryz.ntmps156
  go_wp2_with (go_at_call 190; go_must (refine (hA.part_no x n (by omega) ht).mono ?_); rintro e w' ⟨rfl, q, rfl⟩)
  go_ret2
  exact ⟨rfl, gb_drewN (gb_refl _ _) _⟩

theorem lay_snoc {zs us : List Int} {x : Nat} (v : Int) (h : x + us.length < zs.length) : (lay zs x us).set (x + us.length) v = lay zs x (us ++ [v]) := by
  have e : zs.drop (x + us.length) = zs[x + us.length] :: zs.drop (x + us.length + 1) := List.drop_eq_getElem_cons h
  have hx : (zs.take x ++ us).length = x + us.length := by simp; omega
  unfold lay
  rw [e, List.set_append_right _ _ (by rw [hx]; exact Nat.le_refl _), hx]
  simp [Nat.add_assoc]

set_option maxHeartbeats 1000000 in
theorem fill_yes {w : World} {b g ps pages : Nat} {zs : List Int} (hA : IsA w b g ps pages zs) (x n v : Int) (hv : 0 ≤ v ∧ v < 256) (ht : There ps zs.length x n) :
    Calls Tryz.prog 145 #[.pointer (some ⟨b, 0, none⟩), .int .i64 x, .int .i64 n, .int .u8 v] w fun e w' => e = .returned (.int .i64 0) ∧ w.grownBy w' (some g) ∧ IsA w' b g ps pages (lay zs x.toNat (List.replicate n.toNat v)) := by
  have hbd := hA.bounds
  have hx : x.toNat + n.toNat ≤ zs.length := by obtain ⟨_, _, h3, _⟩ := ht; omega
  have hn0 : 0 ≤ n := ht.1
  obtain ⟨m, rfl⟩ := Int.eq_ofNat_of_zero_le hn0
  simp only [Int.toNat_natCast] at hx ⊢
  go_enter Tryz.func145, Tryz.ntmps145
  go_wp2_with fail
  refine (hA.part_yes x m ht).mono ?_
  rintro e w' ⟨⟨o, rfl, ho⟩, q, rfl⟩
  have ho' : 0 < m → o = x.toNat := fun h => ho (by omega)
  clear ho
  have HO : Hid (0 < m → o = x.toNat) := ho'
  clear ho'
  go_wp2
  go_loopw [23] (fun c wr => ∃ (i : Nat) (ys : List Int), i ≤ m ∧ c = .int .i64 i ∧ Hid (ys = lay zs x.toNat (List.replicate i v)) ∧ ys.length = zs.length ∧ wr.heap[g]? = some (.cells (vals ys) 5 (0, 0)) ∧ w.grownBy wr (some g)) (fun c _ => m - (intOf c).toNat)
  case atStart => exact ⟨0, zs, by omega, rfl, by show _ = _; simp [lay], rfl, hA.hg, gb_drewN (gb_refl _ _) _⟩
  case round =>
    obtain ⟨i, ys, hi, rfl, hys, hl, hgr, hfr⟩ := hrel
    by_cases hlt : i < m
    · have hoo : o = x.toNat := HO.out (by omega)
      subst hoo
      have hcell := cell_of_vals hgr (x.toNat + i) (by omega)
      have hfz := frozen_of_row wr g (x.toNat + i) _ _ hgr
      have HG : Hid (wr.heap[g]? = some (.cells (vals ys) 5 (0, 0))) := hgr
      have HY : Hid (ys.set (x.toNat + i) v = lay zs x.toNat (List.replicate (i + 1) v)) := by
        have e := hys.out
        have := lay_snoc (zs := zs) (us := List.replicate i v) (x := x.toNat) v (by simp; omega)
        rw [List.length_replicate] at this
        show _ = _
        rw [e, this, List.replicate_succ']
      clear hgr
      go_wp2
      go_roundw
      case rel => exact ⟨i + 1, ys.set (x.toNat + i) v, by omega, by go_num, HY, by simpa using hl, set_vals HG.out _ _, gb_setCell hfr _⟩
      case measure => first | (simp [intOf]; done) | (simp [intOf]; omega)
    · obtain rfl : i = m := by omega
      have HG : Hid (wr.heap[g]? = some (.cells (vals ys) 5 (0, 0))) := hgr
      clear hgr
      go_wp2
      go_ret
      have e := hys.out
      refine ⟨rfl, hfr, hA.turned hfr (by rw [← e]; exact HG.out) (length_lay (by simp; omega)) (isBytes_lay hA.hz ?_)⟩
      intro z hz
      have := List.eq_of_mem_replicate hz
      omega

theorem fill_no {w : World} {b g ps pages : Nat} {zs : List Int} (hA : IsA w b g ps pages zs) (x n v : Int) (hx : x ≤ 9223372036854775807) (ht : ¬ There ps zs.length x n) :
    Calls Tryz.prog 145 #[.pointer (some ⟨b, 0, none⟩), .int .i64 x, .int .i64 n, .int .u8 v] w fun e w' => e = .returned (.int .i64 20) ∧ w.grownBy w' none := by
  go_enter Tryz.func145, Tryz.ntmps145
  go_wp2_with (go_at_call 190; go_must (refine (hA.part_no x n (by omega) ht).mono ?_); rintro e w' ⟨rfl, q, rfl⟩)
  go_ret
  exact ⟨rfl, gb_drewN (gb_refl _ _) _⟩

end Go.Proofs.YtjkdflnnpdionaaGreat
/-
  A row of bytes of the call's own, lengthened by append.
-/
namespace Go.Proofs.YtjkdflnnpdionaaGreat
open Go.RowKit
set_option linter.unusedVariables false

/-- The slice (ao, length of us, cap) is a row of the call's own from block B on, and holds the bytes us. -/
def Own (B : Nat) (w : World) (ao : Option Addr) (cap : Nat) (us : List Int) : Prop := w.ownsRow B 5 1 (.slice ao us.length cap) us.length (us.map (Value.int .u8))

def blk (ao : Option Addr) : Option Nat := ao.map (·.block)
theorem ownBlock_blk (ao : Option Addr) (n c : Nat) : (Value.slice ao n c).ownBlock = blk ao := by cases ao <;> rfl

theorem Own.nil (B : Nat) (w : World) : Own B w none 0 [] := World.ownsRow_nil w B 5 1
theorem Own.has {B : Nat} {w : World} {ao : Option Addr} {cap : Nat} {us : List Int} (h : Own B w ao cap us) : Has w ao us.length us := by
  refine ⟨rfl, fun hn => ?_⟩
  rcases h.2 with ⟨_, h0⟩ | ⟨g, cap', cur, hv, _, hg, _⟩
  · omega
  · simp only [Value.slice.injEq] at hv
    obtain ⟨rfl, _, rfl⟩ := hv
    refine ⟨g, 0, rfl, fun i hi => ?_⟩
    have := h.cells (g := g) rfl i (.int .u8 (us.getD i 0)) (by simp [List.getD, hi])
    rw [Addr.add_mid] at this
    exact this
theorem Own.kept {B : Nat} {w w' : World} {ao : Option Addr} {cap : Nat} {us : List Int} (h : Own B w ao cap us) {row : Option Nat} (hf : w.grownBy w' row) (hne : blk ao = none ∨ blk ao ≠ row) : Own B w' ao cap us :=
  World.ownsRow.kept h hf (by rw [ownBlock_blk]; exact hne)
theorem Own.lt {B : Nat} {w : World} {ao : Option Addr} {cap : Nat} {us : List Int} (h : Own B w ao cap us) : ∀ k, blk ao = some k → B ≤ k ∧ k < w.heap.size := by
  intro k hk
  exact World.ownsRow.lt h k (by rw [ownBlock_blk]; exact hk)
theorem Own.nilcap {B : Nat} {w : World} {cap : Nat} {us : List Int} (h : Own B w none cap us) : cap = 0 ∧ us = [] := by
  rcases h.2 with ⟨h1, h2⟩ | ⟨g, c, cur, hv, _⟩
  · simp at h1 h2; exact ⟨h1.2, h2⟩
  · simp at hv

/-- What an append leaves: blocks below B are as they were. -/
theorem gb_far {a b c : World} {row : Option Nat} {B : Nat} (h : a.grownBy b none) (k : b.grownBy c row) (hr : ∀ i, row = some i → B ≤ i) (hB : a.heap.size ≤ B) : a.grownBy c none :=
  ⟨k.os.trans h.os, k.tape.trans h.tape, k.output.trans h.output, Nat.le_trans h.size k.size, fun i hi _ => (k.block i (Nat.lt_of_lt_of_le hi h.size) (fun e => by have := hr i e.symm; omega)).trans (h.block i hi (by simp))⟩
theorem far_ne {row : Option Nat} {B k : Nat} (hr : ∀ i, row = some i → B ≤ i) (hk : k < B) : some k ≠ row := fun e => by have := hr k e.symm; omega

section
variable {w : World} {ops : Array Oper} {rest : List Oper} {o : Oper} {a : Act} {Q : Exit → Act → World → Prop}

/-- append(l, b...): the bytes of whatever slice. -/
theorem wpList_more (hgd : o.guard = none) (s x : Operand) (ho : o.op = .call { callee := .builtin .append, args := #[s, x], argTypes := #[60, 60] }) (B : Nat) (ao : Option Addr) (cap : Nat) (us : List Int)
    (hs : a.eval s = .slice ao us.length cap) (hown : Own B w ao cap us) (ad : Option Addr) (n c : Nat) (ys : List Int) (hx : a.eval x = .slice ad n c) (hy : Has w ad n ys) (hc : ad = none → c = 0) (hlen : us.length + n ≤ 140737488355328) (hB : B ≤ w.heap.size)
    (h : ∀ ao' cap' w', Own B w' ao' cap' (us ++ ys) → w.grownBy w' (blk ao) → wpList Tryz.prog ops Q rest (a.put o.dst (.slice ao' (us.length + n) cap')) w') : wpList Tryz.prog ops Q (o :: rest) a w := by
  obtain ⟨i0, hi, hz0, hz1, hz2⟩ := info_parts Tryz.info5
  obtain ⟨hl, hcells⟩ := hy
  cases ad with
  | none =>
    have hn : n = 0 := by
      rcases Nat.eq_zero_or_pos n with h1 | h1
      · exact h1
      · obtain ⟨_, _, h2, _⟩ := hcells h1; cases h2
    subst hn
    obtain rfl : ys = [] := List.eq_nil_of_length_eq_zero hl
    have hc0 := hc rfl
    subst hc0
    refine wpList_append_own_none hgd s x 60 ho B 5 i0 1 Tryz.underlying60 hi _ _ _ hs hown hx ?_
    have := h ao cap w (by simpa using hown) (gb_refl _ _)
    simpa using this
  | some ad =>
    refine wpList_append_own w hgd s x 60 ho B 5 i0 (.int .u8 0) 1 1 Tryz.underlying60 hi hz0 hz1 hz2 rfl (by decide) _ _ _ hs hown ad n c (ys.map (Value.int .u8)) hx (by simpa using hl) ?_ ?_ ?_ ?_ hB ?_
    · intro j u hj
      have hjn : j < n := by
        have := (List.getElem?_eq_some_iff.1 hj).1
        simp at this; omega
      obtain ⟨bb, oo, e1, e2⟩ := hcells (by omega)
      cases e1
      rw [Addr.add_mid, e2 j hjn, ← hj]
      simp [List.getD, show j < ys.length by omega]
    · intro u hu
      obtain ⟨z, _, rfl⟩ := List.mem_map.1 hu
      rfl
    · unfold maxLen; omega
    · omega
    · intro v' w' hown' hgr _
      rcases hown'.2 with ⟨hv, hn0⟩ | ⟨g, cap', cur, hv, hb, hg, h1, h2, h3, h4⟩
      · subst hv
        have e0 : us = [] := List.eq_nil_of_length_eq_zero (by omega)
        have e1 : ys = [] := List.eq_nil_of_length_eq_zero (by omega)
        subst e0; subst e1
        have hn0' : n = 0 := by simpa using hl.symm
        subst hn0'
        rw [ownBlock_blk] at hgr
        exact h none 0 w' (Own.nil _ _) hgr
      · subst hv
        rw [ownBlock_blk] at hgr
        refine h (some ⟨g, 0, none⟩) cap' w' ?_ hgr
        unfold Own
        rw [List.length_append, hl, List.map_append]
        exact hown'

/-- append(l, z): one byte, laid in a block of its own first. -/
theorem wpList_push (hgd : o.guard = none) (s x : Operand) (ho : o.op = .call { callee := .builtin .append, args := #[s, x], argTypes := #[60, 60] }) (B : Nat) (ao : Option Addr) (cap : Nat) (us : List Int) (z : Int)
    (hs : a.eval s = .slice ao us.length cap) (hown : Own B w ao cap us) (hx : a.eval x = .slice (some ⟨w.heap.size, 0, none⟩) 1 1) (hlen : us.length + 1 ≤ 140737488355328) (hB : B ≤ w.heap.size)
    (h : ∀ ao' cap' w', Own B w' ao' cap' (us ++ [z]) → w.grownBy w' (blk ao) → wpList Tryz.prog ops Q rest (a.put o.dst (.slice ao' (us.length + 1) cap')) w') : wpList Tryz.prog ops Q (o :: rest) a (w.alloc (.cells #[.int .u8 z] 5)) := by
  refine wpList_more hgd s x ho B ao cap us hs (World.ownsRow.alloc hown _) _ 1 1 [z] hx ⟨rfl, fun _ => ⟨_, _, rfl, fun i hi => ?_⟩⟩ (by simp) hlen (by simp; omega) ?_
  · obtain rfl : i = 0 := by omega
    simp
  · intro ao' cap' w' h1 h2
    exact h ao' cap' w' h1 (gb_trans (World.grownBy_alloc _ _ _) h2)
end

end Go.Proofs.YtjkdflnnpdionaaGreat
/-
  The sizes of the classes, as numbers.
-/
namespace Go.Proofs.YtjkdflnnpdionaaGreat
open Go.RowKit
set_option linter.unusedVariables false

/-- A number rounded up to a multiple of 8. -/
def limOf (il : Nat) : Nat := (il + 7) / 8 * 8
/-- The size behind s. -/
def nxt (F L s : Nat) : Nat := min L ((s * F + 799) / 800 * 8)
def chain (F L s0 : Nat) : Nat → Nat
  | 0 => s0
  | k + 1 => nxt F L (chain F L s0 k)
/-- There are n classes. -/
def Cls (F L s0 n : Nat) : Prop := 1 ≤ n ∧ L ≤ chain F L s0 (n - 1) ∧ ∀ j, j < n - 1 → chain F L s0 j < L
/-- Numbers that sizes are made of. -/
structure GoodF (F L s0 : Nat) : Prop where
  f0 : 105 ≤ F
  f1 : F ≤ 400
  s64 : 64 ≤ s0
  sL : s0 ≤ L
  s8 : s0 % 8 = 0
  l8 : L % 8 = 0
  l1 : L ≤ 1048576

theorem limOf_8 (n : Nat) : limOf n % 8 = 0 := by simp [limOf]
theorem limOf_ge (n : Nat) : n ≤ limOf n ∧ limOf n < n + 8 := by simp only [limOf]; omega

theorem chain_facts {F L s0 : Nat} (h : GoodF F L s0) : ∀ k, chain F L s0 k % 8 = 0 ∧ s0 ≤ chain F L s0 k ∧ chain F L s0 k ≤ L
  | 0 => ⟨h.s8, Nat.le_refl _, h.sL⟩
  | k + 1 => by
    obtain ⟨h1, h2, h3⟩ := chain_facts h k
    obtain ⟨f0, f1, a, b, c, d, e⟩ := h
    simp only [chain, nxt]
    generalize hs : chain F L s0 k = s at *
    have hm : s * 105 ≤ s * F := Nat.mul_le_mul_left _ f0
    have hge : s ≤ (s * F + 799) / 800 * 8 := by omega
    rcases Nat.le_total L ((s * F + 799) / 800 * 8) with hc | hc
    · rw [Nat.min_eq_left hc]; exact ⟨d, b, Nat.le_refl _⟩
    · rw [Nat.min_eq_right hc]; exact ⟨by omega, by omega, hc⟩

theorem chain_up {F L s0 : Nat} (h : GoodF F L s0) (k : Nat) (hk : chain F L s0 k < L) : chain F L s0 k + 8 ≤ chain F L s0 (k + 1) := by
  obtain ⟨h1, h2, h3⟩ := chain_facts h k
  obtain ⟨f0, f1, a, b, c, d, e⟩ := h
  simp only [chain, nxt]
  generalize hs : chain F L s0 k = s at *
  have hm : s * 105 ≤ s * F := Nat.mul_le_mul_left _ f0
  have : s + 8 ≤ (s * F + 799) / 800 * 8 := by omega
  omega

theorem chain_lt {F L s0 n : Nat} (h : GoodF F L s0) (hn : Cls F L s0 n) : ∀ {i j : Nat}, i < j → j < n → chain F L s0 i + 8 ≤ chain F L s0 j := by
  intro i j hij hj
  obtain ⟨c1, c2, c3⟩ := hn
  induction j with
  | zero => omega
  | succ j ih =>
    have h1 := chain_up h j (c3 j (by omega))
    rcases Nat.lt_or_ge i j with hlt | hge
    · have := ih hlt (by omega); omega
    · have : i = j := by omega
      subst this; exact h1

theorem chain_last {F L s0 n : Nat} (h : GoodF F L s0) (hn : Cls F L s0 n) : chain F L s0 (n - 1) = L := by
  have := (chain_facts h (n - 1)).2.2
  have := hn.2.1
  omega

/-- There are as many classes as may be, or too many. -/
theorem cls_or (F L s0 : Nat) (m : Nat) : (∃ n, n ≤ m ∧ Cls F L s0 n) ∨ ∀ j, j < m → chain F L s0 j < L := by
  induction m with
  | zero => exact .inr fun j h => by omega
  | succ m ih =>
    rcases ih with ⟨n, h1, h2⟩ | h
    · exact .inl ⟨n, by omega, h2⟩
    · by_cases hl : chain F L s0 m < L
      · refine .inr fun j hj => ?_
        rcases Nat.lt_or_ge j m with h1 | h1
        · exact h j h1
        · have : j = m := by omega
          subst this; exact hl
      · exact .inl ⟨m + 1, Nat.le_refl _, by omega, by simpa using hl, fun j hj => h j (by omega)⟩

theorem cls_uniq {F L s0 n m : Nat} (h : Cls F L s0 n) (k : Cls F L s0 m) : n = m := by
  obtain ⟨a1, a2, a3⟩ := h
  obtain ⟨b1, b2, b3⟩ := k
  rcases Nat.lt_trichotomy n m with h | h | h
  · have := b3 (n - 1) (by omega); omega
  · exact h
  · have := a3 (m - 1) (by omega); omega

/-- The sizes, as values. -/
def szL (F L s0 n : Nat) : List Nat := (List.range n).map (chain F L s0)
def ints (xs : List Nat) : List Value := xs.map fun (n : Nat) => Value.int .i64 (n : Int)
theorem length_szL (F L s0 n : Nat) : (szL F L s0 n).length = n := by simp [szL]
theorem szL_succ (F L s0 n : Nat) : szL F L s0 (n + 1) = szL F L s0 n ++ [chain F L s0 n] := by simp [szL, List.range_succ]
theorem szL_get (F L s0 n i : Nat) (h : i < n) : (szL F L s0 n)[i]? = some (chain F L s0 i) := by simp [szL, h]
theorem ints_get (xs : List Nat) (i : Nat) (x : Nat) (h : xs[i]? = some x) : (ints xs)[i]? = some (.int .i64 (x : Int)) := by simp [ints, h]
theorem ints_snoc (xs : List Nat) (x : Nat) : ints (xs ++ [x]) = ints xs ++ [.int .i64 (x : Int)] := by simp [ints]
theorem length_ints (xs : List Nat) : (ints xs).length = xs.length := by simp [ints]

/-- What the document's loop finds: the least multiple of 8 above s that is not below the factor's. -/
theorem up_eq {F L s0 : Nat} (h : GoodF F L s0) (s n : Nat) (hs : s % 8 = 0) (h0 : 64 ≤ s) (hn : n % 8 = 0) (hle : n ≤ (s * F + 799) / 800 * 8) (hge : ¬ 100 * n < s * F) : n = (s * F + 799) / 800 * 8 := by
  omega
theorem up_first {F L s0 : Nat} (h : GoodF F L s0) (s : Nat) (hs : s % 8 = 0) (h0 : 64 ≤ s) : s + 8 ≤ (s * F + 799) / 800 * 8 := by
  have hm : s * 105 ≤ s * F := Nat.mul_le_mul_left _ h.f0
  omega
theorem up_more (s F n : Nat) (hn : n % 8 = 0) (h : 100 * n < s * F) : n + 8 ≤ (s * F + 799) / 800 * 8 := by
  omega

end Go.Proofs.YtjkdflnnpdionaaGreat
/-
  Put of numbers of all widths (by program: one text a function).
-/
namespace Go.Proofs.YtjkdflnnpdionaaGreat
open Go.RowKit
set_option linter.unusedVariables false

set_option maxHeartbeats 1000000 in
theorem put_84 {w : World} {b g ps pages : Nat} {zs : List Int} (hA : IsA w b g ps pages zs) (x v : Int) (hv : 0 ≤ v ∧ v < 4294967296) (ht : There ps zs.length x 4) :
    Calls Tryz.prog 184 #[.pointer (some ⟨b, 0, none⟩), .int .i64 x, .int .u32 v] w fun e w' => e = .returned (.int .i64 0) ∧ w.grownBy w' (some g) ∧ w'.heap[g]? = some (.cells (vals (putL zs x.toNat 4 v)) 5 (0, 0)) := by
  have hbd := hA.bounds
  obtain ⟨t1, t2, t3, t4⟩ := ht
  have hmod := hA.mod x
  go_enter Tryz.func184, Tryz.ntmps184
  go_wp2_with (first | (go_at_call 206; refine (width_90 _).mono ?_; rintro e w' ⟨rfl, rfl⟩) | (go_at_call 190; go_must (refine (hA.part_yes x 4 ⟨by omega, t2, t3, t4⟩).mono ?_); rintro e w' ⟨⟨o, rfl, ho⟩, q, rfl⟩))
  have hg := hA.hg
  go_loopw [9, 10] (fun r i wr => ∃ (j : Nat) (n : Int) (ys : List Int), j ≤ 4 ∧ i = .int .i64 ((j : Int) - 1) ∧ r = .int .u64 n ∧ 0 ≤ n ∧ n < 18446744073709551616 ∧ ys.length = zs.length ∧ putL ys x.toNat j n = putL zs x.toNat 4 v ∧ wr.heap[g]? = some (.cells (vals ys) 5 (0, 0)) ∧ w.grownBy wr (some g)) (fun _ i _ => (intOf i + 1).toNat)
  case atStart => exact ⟨4, v, zs, by omega, rfl, rfl, by omega, by omega, rfl, rfl, hg, gb_drewN (gb_refl _ _) _⟩
  case round =>
    obtain ⟨j, n, ys, hj, rfl, rfl, hn0, hn1, hl, hp, hgr, hfr⟩ := hrel
    by_cases hlt : 0 < j
    · obtain ⟨j, rfl⟩ : ∃ i, j = i + 1 := ⟨j - 1, by omega⟩
      have HP : Hid (putL ys x.toNat (j + 1) n = putL zs x.toNat 4 v) := hp
      have hcell := cell_of_vals hgr (x.toNat + j) (by omega)
      have hfz := frozen_of_row wr g (x.toNat + j) _ _ hgr
      have HG : Hid (wr.heap[g]? = some (.cells (vals ys) 5 (0, 0))) := hgr
      clear hp hgr hg
      go_wp2
      go_roundw
      case rel => exact ⟨j, n / 256, ys.set (x.toNat + j) (n % 256), by omega, rfl, rfl, by omega, by omega, by simpa using hl, HP.out, set_vals HG.out _ _, gb_setCell hfr _⟩
      case measure => first | (simp [intOf]; done) | (simp [intOf]; omega)
    · obtain rfl : j = 0 := by omega
      have HP : Hid (putL ys x.toNat 0 n = putL zs x.toNat 4 v) := hp
      have HG : Hid (wr.heap[g]? = some (.cells (vals ys) 5 (0, 0))) := hgr
      clear hp hgr hg
      go_wp2
      go_ret
      refine ⟨rfl, hfr, ?_⟩
      have := HP.out
      rw [← this]
      exact HG.out

theorem put_84_no {w : World} {b g ps pages : Nat} {zs : List Int} (hA : IsA w b g ps pages zs) (x v : Int) (hx : x ≤ 9223372036854775807) (ht : ¬ There ps zs.length x 4) :
    Calls Tryz.prog 184 #[.pointer (some ⟨b, 0, none⟩), .int .i64 x, .int .u32 v] w fun e w' => e = .returned (.int .i64 20) ∧ w.grownBy w' none := by
  go_enter Tryz.func184, Tryz.ntmps184
  go_wp2_with (first | (go_at_call 206; refine (width_90 _).mono ?_; rintro e w' ⟨rfl, rfl⟩) | (go_at_call 190; go_must (refine (hA.part_no x 4 (by omega) ht).mono ?_); rintro e w' ⟨rfl, q, rfl⟩))
  go_ret
  exact ⟨rfl, gb_drewN (gb_refl _ _) _⟩

theorem put_84_nil (w : World) (x v : Int) :
    Calls Tryz.prog 184 #[.pointer none, .int .i64 x, .int .u32 v] w fun e w' => e = .returned (.int .i64 1) ∧ w = w' := by
  go_enter Tryz.func184, Tryz.ntmps184
  go_wp2
  go_ret
  exact ⟨rfl, rfl⟩

end Go.Proofs.YtjkdflnnpdionaaGreat
/-
  Tools: boxes, what is kept, rows that append lengthens.
-/
namespace Go.Proofs.YtjkdflnnpdionaaGreat
open Go.RowKit
set_option linter.unusedVariables false

/-- A variable of its own that holds the values vs. -/
def Box (w : World) (t : TypeId) (b : Nat) (vs : Array Value) : Prop := w.heap[b]? = some (.cells vs t (0, 0))
theorem Box.kept {w w' : World} {t : TypeId} {b : Nat} {vs : Array Value} (h : Box w t b vs) {row : Option Nat} (hf : w.grownBy w' row) (hn : some b ≠ row) : Box w' t b vs := by
  have hlt : b < w.heap.size := (Array.getElem?_eq_some_iff.1 h).1
  unfold Box
  rw [hf.block b hlt hn]
  exact h
theorem Box.cell {w : World} {t : TypeId} {b : Nat} {vs : Array Value} (h : Box w t b vs) (i : Nat) : w.cell? ⟨b, i, none⟩ = vs[i]? := cell_of_row w b i _ _ _ h
theorem Box.new (w : World) (t : TypeId) (vs : Array Value) : Box (w.alloc (.cells vs t)) t w.heap.size vs := heap_alloc_new w _
theorem Box.fz {w : World} {t : TypeId} {b : Nat} {vs : Array Value} (h : Box w t b vs) (i : Nat) : w.frozen? ⟨b, i, none⟩ = false := by simp [World.frozen?, show w.heap[b]? = _ from h]
theorem Box.lt {w : World} {t : TypeId} {b : Nat} {vs : Array Value} (h : Box w t b vs) : b < w.heap.size := (Array.getElem?_eq_some_iff.1 h).1
theorem Box.set {w : World} {t : TypeId} {b : Nat} {vs : Array Value} (h : Box w t b vs) (i : Nat) (v : Value) : Box (w.setCell ⟨b, i, none⟩ v) t b (vs.setIfInBounds i v) := heap_setCell_same w b i _ _ _ h

theorem gb_cellN {w w' : World} (hf : w.grownBy w' none) {x : Addr} {v : Value} (h : w.cell? x = some v) : w'.cell? x = some v := by
  have hlt := World.block_lt_of_cell? _ _ h
  have := hf.block x.block hlt (by simp)
  simpa [World.cell?, this] using h
theorem gb_cell {w w' : World} {row : Option Nat} (hf : w.grownBy w' row) {x : Addr} {v : Value} (h : w.cell? x = some v) (hn : some x.block ≠ row) : w'.cell? x = some v := by
  have hlt := World.block_lt_of_cell? _ _ h
  have := hf.block x.block hlt hn
  simpa [World.cell?, this] using h
theorem lt_of_block {w : World} {k : Nat} {o : Obj} (h : w.heap[k]? = some o) : k < w.heap.size := (Array.getElem?_eq_some_iff.1 h).1

/-- Blocks that lay there and are not of F are as they were. -/
structure Kp (F : Nat → Prop) (w w' : World) : Prop where
  os : w'.os = w.os
  tape : w'.tape = w.tape
  output : w'.output = w.output
  size : w.heap.size ≤ w'.heap.size
  block : ∀ k, k < w.heap.size → ¬ F k → w'.heap[k]? = w.heap[k]?
theorem Kp.refl (F : Nat → Prop) (w : World) : Kp F w w := ⟨rfl, rfl, rfl, Nat.le_refl _, fun _ _ _ => rfl⟩
theorem Kp.step {F : Nat → Prop} {w a b : World} (h : Kp F w a) {row : Option Nat} (k : a.grownBy b row) (hr : ∀ i, row = some i → F i ∨ w.heap.size ≤ i) : Kp F w b :=
  ⟨k.os.trans h.os, k.tape.trans h.tape, k.output.trans h.output, Nat.le_trans h.size k.size, fun i hi hF => (k.block i (Nat.lt_of_lt_of_le hi h.size) (fun e => by rcases hr i e.symm with h1 | h1; exact hF h1; omega)).trans (h.block i hi hF)⟩
theorem Kp.of {F : Nat → Prop} {w w' : World} (h : w.grownBy w' none) : Kp F w w' := (Kp.refl F w).step h (by simp)
theorem Kp.trans {F G H : Nat → Prop} {a b c : World} (h : Kp F a b) (k : Kp G b c) (hF : ∀ i, F i → H i) (hG : ∀ i, G i → H i ∨ a.heap.size ≤ i) : Kp H a c :=
  ⟨k.os.trans h.os, k.tape.trans h.tape, k.output.trans h.output, Nat.le_trans h.size k.size, fun i hi hn => (k.block i (Nat.lt_of_lt_of_le hi h.size) (fun e => by rcases hG i e with h1 | h1; exact hn h1; omega)).trans (h.block i hi (fun e => hn (hF i e)))⟩
theorem Kp.mono {F G : Nat → Prop} {a b : World} (h : Kp F a b) (hF : ∀ i, F i → G i ∨ a.heap.size ≤ i) : Kp G a b :=
  (Kp.refl G a).trans h (fun _ h => h) hF
/-- Nothing that lay there has turned. -/
theorem Kp.grown {F : Nat → Prop} {a b : World} (h : Kp F a b) (hF : ∀ i, F i → a.heap.size ≤ i) : a.grownBy b none :=
  ⟨h.os, h.tape, h.output, h.size, fun i hi _ => h.block i hi (fun e => by have := hF i e; omega)⟩
theorem Kp.box {F : Nat → Prop} {a b : World} (h : Kp F a b) {t : TypeId} {k : Nat} {vs : Array Value} (hb : Box a t k vs) (hn : ¬ F k) : Box b t k vs := by
  unfold Box; rw [h.block k hb.lt hn]; exact hb

theorem ne_of_type {w : World} {a b : Nat} {c1 c2 : Array Value} {t1 t2 : TypeId} {z1 z2 : Nat × Nat} (h1 : w.heap[a]? = some (.cells c1 t1 z1)) (h2 : w.heap[b]? = some (.cells c2 t2 z2)) (h : t1 ≠ t2) : a ≠ b := by
  intro e; subst e
  rw [h1] at h2
  injection h2 with h2
  injection h2 with _ h3 _
  exact h h3

theorem row_block {w : World} {B : Nat} {e : TypeId} {s : Nat} {v : Value} {n : Nat} {xs : List Value} (h : w.ownsRow B e s v n xs) : ∀ k, v.ownBlock = some k → ∃ cur, w.heap[k]? = some (.cells cur e (0, 0)) := by
  intro k hk
  rcases h.2 with ⟨rfl, rfl⟩ | ⟨g, c, cur, rfl, h2, h3, h4, h5, h6⟩
  · simp [Value.ownBlock] at hk
  · simp [Value.ownBlock] at hk; subst hk; exact ⟨cur, h3⟩
theorem row_cell {w : World} {B : Nat} {e : TypeId} {s : Nat} {g n c : Nat} {xs : List Value} (h : w.ownsRow B e s (.slice (some ⟨g, 0, none⟩) n c) n xs) (i : Nat) (u : Value) (hu : xs[i]? = some u) : w.cell? ⟨g, i, none⟩ = some u := by
  have := h.cells (g := g) rfl i u hu
  rw [Addr.add_mid, Nat.zero_add] at this
  exact this
theorem row_shape {w : World} {B : Nat} {e : TypeId} {s : Nat} {v : Value} {n : Nat} {xs : List Value} (h : w.ownsRow B e s v n xs) : ∃ ao c, v = .slice ao n c ∧ (ao = none → n = 0 ∧ c = 0) ∧ n ≤ c ∧ c ≤ maxLen ∧ (0 < n → ∃ g, ao = some ⟨g, 0, none⟩) := by
  rcases h.2 with ⟨rfl, rfl⟩ | ⟨g, c, cur, rfl, h2, h3, h4, h5, h6⟩
  · exact ⟨none, 0, rfl, fun _ => ⟨rfl, rfl⟩, Nat.le_refl _, by unfold maxLen; omega, fun h => by omega⟩
  · exact ⟨_, c, rfl, fun h => by simp at h, h4, h5, fun _ => ⟨g, rfl⟩⟩
theorem row_same {w w' : World} {B : Nat} {e : TypeId} {s : Nat} {v : Value} {n : Nat} {xs : List Value} (h1 : w.ownsRow B e s v n xs) (hf : ∀ k, v.ownBlock = some k → w'.heap[k]? = w.heap[k]?) : w'.ownsRow B e s v n xs := by
  refine ⟨h1.1, ?_⟩
  rcases h1.2 with h3 | ⟨g, c, cur, rfl, h4, h5, h6⟩
  · exact .inl h3
  · exact .inr ⟨g, c, cur, rfl, h4, by rw [hf g rfl]; exact h5, h6⟩
theorem row_kept {w w' : World} {B : Nat} {e : TypeId} {s : Nat} {v : Value} {n : Nat} {xs : List Value} (h1 : w.ownsRow B e s v n xs) {row : Option Nat} (hf : w.grownBy w' row) (hn : ∀ k, v.ownBlock = some k → some k ≠ row) : w'.ownsRow B e s v n xs :=
  row_same h1 fun k hk => by
    obtain ⟨cur, hc⟩ := row_block h1 k hk
    exact hf.block k (lt_of_block hc) (hn k hk)
theorem row_base {w : World} {B B' : Nat} {e : TypeId} {s : Nat} {v : Value} {n : Nat} {xs : List Value} (h : w.ownsRow B e s v n xs) (hB : B' ≤ B) : w.ownsRow B' e s v n xs := by
  refine ⟨h.1, ?_⟩
  rcases h.2 with h1 | ⟨g, c, cur, h1, h2, h3⟩
  · exact .inl h1
  · exact .inr ⟨g, c, cur, h1, Nat.le_trans hB h2, h3⟩
/-- The last elements are cut off. -/
theorem row_take {w : World} {B : Nat} {e : TypeId} {s g n c m : Nat} {xs : List Value} (h : w.ownsRow B e s (.slice (some ⟨g, 0, none⟩) n c) n xs) (hm : m ≤ n) : w.ownsRow B e s (.slice (some ⟨g, 0, none⟩) m c) m (xs.take (m * s)) := by
  have hms : m * s ≤ n * s := Nat.mul_le_mul_right s hm
  refine ⟨by rw [List.length_take, h.1]; omega, ?_⟩
  rcases h.2 with ⟨h1, _⟩ | ⟨g', c', cur, h1, h2, h3, h4, h5, h6, h7⟩
  · simp at h1
  · simp at h1
    obtain ⟨rfl, rfl⟩ := h1
    refine .inr ⟨g, c, cur, rfl, h2, h3, by omega, h5, h6, ?_⟩
    rw [← h7, List.take_take]
    congr 1; omega
/-- A cell of the row is another one. -/
theorem row_set {w : World} {B : Nat} {e : TypeId} {s g n c : Nat} {xs : List Value} (h : w.ownsRow B e s (.slice (some ⟨g, 0, none⟩) n c) n xs) (i : Nat) (v : Value) : (w.setCell ⟨g, i, none⟩ v).ownsRow B e s (.slice (some ⟨g, 0, none⟩) n c) n (xs.set i v) := by
  refine ⟨by simpa using h.1, ?_⟩
  rcases h.2 with ⟨h1, _⟩ | ⟨g', c', cur, h1, h2, h3, h4, h5, h6, h7⟩
  · simp at h1
  · simp at h1
    obtain ⟨rfl, rfl⟩ := h1
    refine .inr ⟨g, c, _, rfl, h2, heap_setCell_same w g i _ _ _ h3, h4, h5, by simpa using h6, ?_⟩
    rw [← h7]
    simp [List.take_set]

section
variable {P : Program} {w : World} {ops : Array Oper} {rest : List Oper} {o : Oper} {a : Act} {Q : Exit → Act → World → Prop}

/-- append(l, x): one element, laid in a block of its own first. -/
theorem wpList_pushN (hgd : o.guard = none) (s x : Operand) (t : TypeId) (ho : o.op = .call { callee := .builtin .append, args := #[s, x], argTypes := #[t, t] }) (e : TypeId) (i : TypeInfo) (z : Value) (size bytes : Nat)
    (ht : P.underlying t = some (.slice e)) (hi : P.info? e = some i) (hz : i.zero = some z) (hsize : i.size = size) (hby : i.bytes = bytes) (hzs : z.cells.size = size) (hsz : 0 < size) (hb : bytes ≤ 1000)
    (B : Nat) (v : Value) (n : Nat) (xs : List Value) (hs : a.eval s = v) (hown : w.ownsRow B e size v n xs) (us : List Value) (hul : us.length = size) (hu : ∀ u ∈ us, u.oneCell' = true) (hx : a.eval x = .slice (some ⟨w.heap.size, 0, none⟩) 1 1) (hn : n ≤ 100000000000) (hB : B ≤ w.heap.size)
    (h : ∀ g cap w', w'.ownsRow B e size (.slice (some ⟨g, 0, none⟩) (n + 1) cap) (n + 1) (xs ++ us) → w.grownBy w' v.ownBlock → (v.ownBlock = some g ∨ w.heap.size ≤ g) → wpList P ops Q rest (a.put o.dst (.slice (some ⟨g, 0, none⟩) (n + 1) cap)) w') : wpList P ops Q (o :: rest) a (w.alloc (.cells us.toArray e)) := by
  refine wpList_plain hgd fun K hK => ?_
  have hbb : (n + 1) * bytes ≤ 140737488355328 := Nat.le_trans (Nat.mul_le_mul (Nat.succ_le_succ hn) hb) (by omega)
  refine wp_append_lies _ s x t ho B e i z size bytes ht hi hz hsize hby hzs hsz v n xs hs (World.ownsRow.alloc hown _) ⟨w.heap.size, 0, none⟩ 1 1 us hx (by omega) ?_ hu (by omega) (by unfold maxLen; omega) hbb (by simp; omega) (w.heap.size + 1) (by simp) ?_
  · exact World.news_of_block (cs := us.toArray) (t := e) (fr := (0, 0)) (heap_alloc_new w _)
  · intro g cap w' h1 h2 h3 h4
    refine hK _ _ (h g cap w' h1 (gb_trans (World.grownBy_alloc w _ _) h2) ?_)
    rcases h3 with h3 | h3
    · exact .inl h3
    · exact .inr (by omega)
end

theorem Tryz.info3 : (Tryz.prog.info? 3).map (fun i => (i.zero, i.size, i.bytes)) = some (some (.int .i64 0), 1, 8) := by kernel_rfl
section
variable {w : World} {ops : Array Oper} {rest : List Oper} {o : Oper} {a : Act} {Q : Exit → Act → World → Prop}
theorem push3 (hgd : o.guard = none) (s x : Operand) (ho : o.op = .call { callee := .builtin .append, args := #[s, x], argTypes := #[55, 55] })
    (B : Nat) (v : Value) (n : Nat) (xs : List Value) (hs : a.eval s = v) (hown : w.ownsRow B 3 1 v n xs) (u : Int) (hx : a.eval x = .slice (some ⟨w.heap.size, 0, none⟩) 1 1) (hn : n ≤ 100000000000) (hB : B ≤ w.heap.size)
    (h : ∀ g cap w', w'.ownsRow B 3 1 (.slice (some ⟨g, 0, none⟩) (n + 1) cap) (n + 1) (xs ++ [.int .i64 u]) → w.grownBy w' v.ownBlock → (v.ownBlock = some g ∨ w.heap.size ≤ g) → wpList Tryz.prog ops Q rest (a.put o.dst (.slice (some ⟨g, 0, none⟩) (n + 1) cap)) w') : wpList Tryz.prog ops Q (o :: rest) a (w.alloc (.cells #[.int .i64 u] 3)) := by
  obtain ⟨i0, hi, hz0, hz1, hz2⟩ := info_parts Tryz.info3
  exact wpList_pushN hgd s x 55 ho 3 i0 _ 1 8 Tryz.underlying55 hi hz0 hz1 hz2 rfl (by omega) (by omega) B v n xs hs hown [.int .i64 u] rfl (by simp [Value.oneCell']) hx hn hB h
end

end Go.Proofs.YtjkdflnnpdionaaGreat

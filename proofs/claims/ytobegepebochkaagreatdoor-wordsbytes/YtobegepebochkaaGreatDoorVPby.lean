import Derived.Lib.SlBytesConst
import Derived.Test.YtobegepebochkaaGreatDoorVPbr
import Derived.Great.Walk
import Derived.Deep.RegionHeld3
import Derived.Great.BuildSlice
import Derived.Test.YtobegepebochkaaGreatDoorVPat
import Derived.Test.YtobegepebochkaaGreatDoorVE
import Derived.Test.YtobegepebochkaaGreatDoorVPbb
import Derived.Test.YtobegepebochkaaGreatDoorVPbu
import Derived.Test.YtobegepebochkaaGreatDoorVMp
set_option linter.unusedVariables false
set_option linter.unusedSimpArgs false
namespace Go.Proofs.YtobegepebochkaaGreatDoor
open Go.RowKit Go.Shelf
abbrev c1 : Cmd := ⟨5, [[97]], 5, 0, 0, 0, false, [], []⟩
abbrev c3 : Cmd := ⟨1, [[97], [98]], 0, 0, 0, 0, false, [], []⟩
theorem ls1 : lineS [115, 101, 116, 32, 97, 32, 53, 32, 48, 32, 48, 48, 55] = .inl (c1, 7) := by rfl
theorem ls2 : lineS [115, 101, 116, 32, 97, 32, 120, 32, 48, 32, 49] = .inr (2, badLine, 1) := by rfl
theorem ls3 : lineS [103, 101, 116, 32, 97, 32, 98] = .inl (c3, -1) := by rfl
theorem of3 : ofS 1 = some ([103, 101, 116], ⟨1, [75], [75], true, false⟩) := by rfl
theorem jn3 : Lib.join [[103, 101, 116], [97], [98]] [32] = [103, 101, 116, 32, 97, 32, 98] := by rfl
theorem by_const (w : World) (l : Bs) (C : Array Value) (fr : Nat × Nat) (hC : C = (l.map fun b => Value.int .u8 (b.toNat : Int)).toArray) (hl : l.length ≤ 1000) : By (w.alloc (.cells C 5 fr)) (.slice (some ⟨w.heap.size, 0, none⟩) l.length l.length) l := by
  refine .inr ⟨w.heap.size, 0, _, rfl, by omega, by simp, fun i x hx => ?_⟩
  rw [Nat.zero_add, cell_of_row _ _ _ _ _ _ (heap_alloc_new w (.cells C 5 fr)), hC]
  simp [hx]
theorem line1 {w : World} (hE : Er w) (v : Value) (hB : By w v [115, 101, 116, 32, 97, 32, 53, 32, 48, 32, 48, 48, 55]) :
    Calls Tryz.prog 15 #[v] w fun e w' => ∃ ka kb ma mb, e = .returned (.tuple #[.agg #[.int .i64 5, .slice ka 1 kb, .int .u64 5, .int .i64 0, .int .u64 0, .int .u64 0, .slice none 0 0, .bool false, .bool false, .slice ma 0 mb, .string ⟨#[]⟩], .int .i64 7, .agg #[.int .i64 0, .string ⟨#[]⟩, .int .i64 0]]) ∧ Ws w' (.slice ka 1 kb) [[97]] ∧ w.grownBy w' none := by
  refine (Line_6 hE v _ hB).mono ?_
  rintro e w' ⟨hL, hg⟩
  rcases hL with ⟨c', n, kv, mv, h1, h2, h3, h4⟩ | ⟨k, t, p, h1, _⟩
  · rw [ls1] at h1
    injection h1 with h1
    injection h1 with h5 h6
    subst h5 h6
    have hw := ws_row h3 rfl
    obtain ⟨ka, kb, rfl, _⟩ := row_shape h3
    obtain ⟨ma, mb, rfl, _⟩ := row_shape h4
    exact ⟨ka, kb, ma, mb, h2, hw, hg⟩
  · rw [ls1] at h1; cases h1
theorem line2 {w : World} (hE : Er w) (v : Value) (hB : By w v [115, 101, 116, 32, 97, 32, 120, 32, 48, 32, 49]) :
    Calls Tryz.prog 15 #[v] w fun e w' => e = .returned (.tuple #[.agg #[.int .i64 0, .slice none 0 0, .int .u64 0, .int .i64 0, .int .u64 0, .int .u64 0, .slice none 0 0, .bool false, .bool false, .slice none 0 0, .string ⟨#[]⟩], .int .i64 (-1), .agg #[.int .i64 2, .string ⟨#[98, 97, 100, 32, 99, 111, 109, 109, 97, 110, 100, 32, 108, 105, 110, 101, 32, 102, 111, 114, 109, 97, 116]⟩, .int .i64 1]]) ∧ w.grownBy w' none := by
  refine (Line_6 hE v _ hB).mono ?_
  rintro e w' ⟨hL, hg⟩
  rcases hL with ⟨c', n, kv, mv, h1, _⟩ | ⟨k, t, p, h1, h2⟩
  · rw [ls2] at h1; cases h1
  · rw [ls2] at h1
    injection h1 with h1
    injection h1 with h5 h6
    injection h6 with h6 h7
    subst h5 h6 h7
    exact ⟨h2, hg⟩
theorem bytes3 {w : World} (hE : Er w) (kg kc : Nat) (hkc : 2 ≤ kc) (hkg : kg < w.heap.size) (h0 : w.cell? ⟨kg, 0, none⟩ = some (sv [97])) (h1 : w.cell? ⟨kg, 1, none⟩ = some (sv [98])) :
    Calls Tryz.prog 33 #[.agg #[.int .i64 1, .slice (some ⟨kg, 0, none⟩) 2 kc, .int .u64 0, .int .i64 0, .int .u64 0, .int .u64 0, .slice none 0 0, .bool false, .bool false, .slice none 0 0, .string ⟨#[]⟩]] w fun e w' => ∃ a n c', e = .returned (.tuple #[.slice a n c', .int .i64 0]) ∧ By w' (.slice a n c') ([103, 101, 116, 32, 97, 32, 98] ++ [13, 10]) ∧ w.grownBy w' none := by
  have h := bytes_8 hE c3 [103, 101, 116] of3 rfl rfl kg 0 kc 0 0 none none (by decide) (by decide) hkc hkg (fun i x hx => by
    match i, hx with
    | 0, hx => injection hx with hx; subst hx; exact h0
    | 1, hx => injection hx with hx; subst hx; exact h1
    | n + 2, hx => simp at hx) (by rw [show Lib.join ([103, 101, 116] :: c3.keys) [32] = [103, 101, 116, 32, 97, 32, 98] from jn3]; decide) (by rw [show Lib.join ([103, 101, 116] :: c3.keys) [32] = [103, 101, 116, 32, 97, 32, 98] from jn3]; exact ls3)
  rw [show Lib.join ([103, 101, 116] :: c3.keys) [32] = [103, 101, 116, 32, 97, 32, 98] from jn3] at h
  refine h.mono ?_
  rintro e w' ⟨v, rfl, hB, hg⟩
  obtain ⟨a, c', rfl⟩ := hB.shape
  exact ⟨a, _, c', rfl, hB, hg⟩
theorem same1 {w : World} (ka : Option Addr) (kb : Nat) (ma : Option Addr) (mb g : Nat) (h1 : Ws w (.slice ka 1 kb) [[97]]) (hg : g < w.heap.size) (h2 : w.cell? ⟨g, 0, none⟩ = some (sv [97])) :
    Calls Tryz.prog 16 #[.agg #[.int .i64 5, .slice ka 1 kb, .int .u64 5, .int .i64 0, .int .u64 0, .int .u64 0, .slice none 0 0, .bool false, .bool false, .slice ma 0 mb, .string ⟨#[]⟩], .agg #[.int .i64 5, .slice (some ⟨g, 0, none⟩) 1 1, .int .u64 5, .int .i64 0, .int .u64 0, .int .u64 0, .slice none 0 0, .bool false, .bool false, .slice none 0 0, .string ⟨#[]⟩]] w fun e w' => e = .returned (.bool true) ∧ w.grownBy w' none :=
  same_16 c1 [] false (.slice ka 1 kb) (.slice (some ⟨g, 0, none⟩) 1 1) (.slice none 0 0) (.slice none 0 0) (.slice ma 0 mb) (.slice none 0 0) h1 (.inr ⟨g, 0, 1, rfl, by decide, hg, fun i x hx => by
    match i, hx with
    | 0, hx => injection hx with hx; subst hx; exact h2
    | n + 1, hx => simp at hx⟩) (by decide) (.inl ⟨rfl, _, _, rfl⟩) (.inl ⟨rfl, _, _, rfl⟩) (by decide) (.inl ⟨rfl, _, _, rfl⟩) (.inl ⟨rfl, _, _, rfl⟩)
theorem num_4 (z : Int) (w : World) : Calls Tryz.prog 34 #[.int .i64 z] w fun e w' => e = .returned (.int .i64 z) ∧ w' = w := by
  go_enter Tryz.func34, Tryz.ntmps34
  go_wp2
  go_ret
  exact ⟨rfl, rfl⟩
theorem same2 {w2 : World} {ka : Option Addr} {kb : Nat} (ma : Option Addr) (mb : Nat) (hW : Ws w2 (.slice ka 1 kb) [[97]]) (A B : Obj) :
    Calls Tryz.prog 16 #[.agg #[.int .i64 5, .slice ka 1 kb, .int .u64 5, .int .i64 0, .int .u64 0, .int .u64 0, .slice none 0 0, .bool false, .bool false, .slice ma 0 mb, .string ⟨#[]⟩], .agg #[.int .i64 5, .slice (some ⟨w2.heap.size + 1 + 1, 0, none⟩) 1 1, .int .u64 5, .int .i64 0, .int .u64 0, .int .u64 0, .slice none 0 0, .bool false, .bool false, .slice none 0 0, .string ⟨#[]⟩]] (((w2.alloc A).alloc B).alloc (.cells #[.string ⟨#[97]⟩] 9)) fun e w' => e = .returned (.bool true) ∧ w2.grownBy w' none := by
  have hn := heap_alloc_new ((w2.alloc A).alloc B) (.cells #[.string ⟨#[97]⟩] 9)
  have hs : ((w2.alloc A).alloc B).heap.size = w2.heap.size + 1 + 1 := by simp
  rw [hs] at hn
  have g3 : w2.grownBy (((w2.alloc A).alloc B).alloc (.cells #[.string ⟨#[97]⟩] 9)) none := gb_alloc (gb_alloc (gb_alloc (gb_refl w2 none) A) B) _
  have hlt := lt_of_block hn
  have hc : (((w2.alloc A).alloc B).alloc (.cells #[.string ⟨#[97]⟩] 9)).cell? ⟨w2.heap.size + 1 + 1, 0, none⟩ = some (sv [97]) := by
    rw [cell_of_row _ _ _ _ _ _ hn]; rfl
  have hW' := hW.kept g3
  generalize (((w2.alloc A).alloc B).alloc (.cells #[.string ⟨#[97]⟩] 9)) = w3 at *
  refine (same1 ka kb ma mb _ hW' hlt hc).mono ?_
  rintro e w' ⟨rfl, hg⟩
  exact ⟨rfl, gb_trans g3 hg⟩
theorem bytes4 {w4 : World} (hE : Er w4) (A : Obj) (b0 b1 b2 : Value) :
    Calls Tryz.prog 33 #[.agg #[.int .i64 1, .slice (some ⟨w4.heap.size + 1 + 1, 0, none⟩) 2 2, .int .u64 0, .int .i64 0, .int .u64 0, .int .u64 0, .slice none 0 0, .bool false, .bool false, .slice none 0 0, .string ⟨#[]⟩]] (((w4.alloc A).alloc (.cells #[b0, b1, b2] 43)).alloc (.cells #[.string ⟨#[97]⟩, .string ⟨#[98]⟩] 9)) fun e w' => ∃ a n c', e = .returned (.tuple #[.slice a n c', .int .i64 0]) ∧ (convert 38 9 (.slice a n c')).run Tryz.prog w' = .ok (.string ⟨#[103, 101, 116, 32, 97, 32, 98, 13, 10]⟩) w' ∧ w4.grownBy w' none ∧ w'.cell? ⟨w4.heap.size + 1, 0, none⟩ = some b0 ∧ w'.cell? ⟨w4.heap.size + 1, 1, none⟩ = some b1 ∧ w'.cell? ⟨w4.heap.size + 1, 2, none⟩ = some b2 := by
  have hn := heap_alloc_new ((w4.alloc A).alloc (.cells #[b0, b1, b2] 43)) (.cells #[.string ⟨#[97]⟩, .string ⟨#[98]⟩] 9)
  have hs : ((w4.alloc A).alloc (.cells #[b0, b1, b2] 43)).heap.size = w4.heap.size + 1 + 1 := by simp
  rw [hs] at hn
  have hm := heap_alloc_new (w4.alloc A) (.cells #[b0, b1, b2] 43)
  have hs' : (w4.alloc A).heap.size = w4.heap.size + 1 := by simp
  rw [hs'] at hm
  have g0 := gb_alloc (gb_refl ((w4.alloc A).alloc (.cells #[b0, b1, b2] 43)) none) (.cells #[.string ⟨#[97]⟩, .string ⟨#[98]⟩] 9)
  have c0 : ((w4.alloc A).alloc (.cells #[b0, b1, b2] 43)).cell? ⟨w4.heap.size + 1, 0, none⟩ = some b0 := by rw [cell_of_row _ _ _ _ _ _ hm]; rfl
  have c1 : ((w4.alloc A).alloc (.cells #[b0, b1, b2] 43)).cell? ⟨w4.heap.size + 1, 1, none⟩ = some b1 := by rw [cell_of_row _ _ _ _ _ _ hm]; rfl
  have c2 : ((w4.alloc A).alloc (.cells #[b0, b1, b2] 43)).cell? ⟨w4.heap.size + 1, 2, none⟩ = some b2 := by rw [cell_of_row _ _ _ _ _ _ hm]; rfl
  have g3 : w4.grownBy (((w4.alloc A).alloc (.cells #[b0, b1, b2] 43)).alloc (.cells #[.string ⟨#[97]⟩, .string ⟨#[98]⟩] 9)) none := gb_alloc (gb_alloc (gb_alloc (gb_refl w4 none) A) _) _
  have d0 := gb_cellN g0 c0
  have d1 := gb_cellN g0 c1
  have d2 := gb_cellN g0 c2
  have hlt := lt_of_block hn
  have hc0 : (((w4.alloc A).alloc (.cells #[b0, b1, b2] 43)).alloc (.cells #[.string ⟨#[97]⟩, .string ⟨#[98]⟩] 9)).cell? ⟨w4.heap.size + 1 + 1, 0, none⟩ = some (sv [97]) := by
    rw [cell_of_row _ _ _ _ _ _ hn]; rfl
  have hc1 : (((w4.alloc A).alloc (.cells #[b0, b1, b2] 43)).alloc (.cells #[.string ⟨#[97]⟩, .string ⟨#[98]⟩] 9)).cell? ⟨w4.heap.size + 1 + 1, 1, none⟩ = some (sv [98]) := by
    rw [cell_of_row _ _ _ _ _ _ hn]; rfl
  clear g0 c0 c1 c2 hn hm
  generalize (((w4.alloc A).alloc (.cells #[b0, b1, b2] 43)).alloc (.cells #[.string ⟨#[97]⟩, .string ⟨#[98]⟩] 9)) = w3 at *
  refine (bytes3 (hE.kept g3) _ 2 (by decide) hlt hc0 hc1).mono ?_
  rintro e w' ⟨a, n, c', rfl, hB, hg⟩
  exact ⟨a, n, c', rfl, hB.conv, gb_trans g3 hg, gb_cellN hg d0, gb_cellN hg d1, gb_cellN hg d2⟩
set_option maxRecDepth 100000 in
set_option maxHeartbeats 4000000 in
theorem wakes_5 {w : World} (hE : Er w) : Calls Tryz.prog 24 #[] w fun e w' => e = .returned (.bool true) ∧ w.grownBy w' none := by
  have hcv1 := Lib.run_convert_bytes_const (P := Tryz.prog) w 38 5 #[.int .u8 115, .int .u8 101, .int .u8 116, .int .u8 32, .int .u8 97, .int .u8 32, .int .u8 53, .int .u8 32, .int .u8 48, .int .u8 32, .int .u8 48, .int .u8 48, .int .u8 55] 13 13 Tryz.underlying38 Tryz.underlying5
  have g1 := gb_alloc (gb_refl w none) (.cells #[.int .u8 115, .int .u8 101, .int .u8 116, .int .u8 32, .int .u8 97, .int .u8 32, .int .u8 53, .int .u8 32, .int .u8 48, .int .u8 32, .int .u8 48, .int .u8 48, .int .u8 55] 5 (13, 14))
  have h6 := line1 (hE.kept g1) (.slice (some ⟨w.heap.size, 0, none⟩) 13 13) (by_const w [115, 101, 116, 32, 97, 32, 53, 32, 48, 32, 48, 48, 55] #[.int .u8 115, .int .u8 101, .int .u8 116, .int .u8 32, .int .u8 97, .int .u8 32, .int .u8 53, .int .u8 32, .int .u8 48, .int .u8 32, .int .u8 48, .int .u8 48, .int .u8 55] (13, 14) rfl (by decide))
  have h7 := @same2
  have h8 := @bytes4
  have hl2 : ∀ {w3 : World}, Er w3 → Calls Tryz.prog 15 #[.slice (some ⟨w3.heap.size, 0, none⟩) 11 11] (w3.alloc (.cells #[.int .u8 115, .int .u8 101, .int .u8 116, .int .u8 32, .int .u8 97, .int .u8 32, .int .u8 120, .int .u8 32, .int .u8 48, .int .u8 32, .int .u8 49] 5 (11, 12))) _ := fun {w3} hE3 => line2 (hE3.kept (gb_alloc (gb_refl w3 none) _)) (.slice (some ⟨w3.heap.size, 0, none⟩) 11 11) (by_const w3 [115, 101, 116, 32, 97, 32, 120, 32, 48, 32, 49] #[.int .u8 115, .int .u8 101, .int .u8 116, .int .u8 32, .int .u8 97, .int .u8 32, .int .u8 120, .int .u8 32, .int .u8 48, .int .u8 32, .int .u8 49] (11, 12) rfl (by decide))
  go_enter Tryz.func24, Tryz.ntmps24
  go_wp2_with (first
    | (go_at_call 15; go_must (first | ((with_reducible refine h62.mono ?_); rintro e w4 ⟨rfl, hg4⟩; (clear h62 hcv2); (have hw4 := gb_trans (gb_trans hw2 hg3) (gb_trans (gb_alloc (gb_refl w3 none) _) hg4))) | ((with_reducible refine h6.mono ?_); rintro e w2 ⟨ka, kb, ma, mb, rfl, hW2, hg2⟩; (clear h6 hcv1); (have hE2 := hE.kept (gb_trans g1 hg2)); (have hw2 := gb_trans g1 hg2))))
    | (go_at_call 16; go_must ((with_reducible refine (h7 ma mb hW2 _ _).mono ?_); rintro e w3 ⟨rfl, hg3⟩; (clear h7); (have hE3 := hE2.kept hg3); (have h62 := hl2 hE3); (have hcv2 := Lib.run_convert_bytes_const (P := Tryz.prog) w3 38 5 #[.int .u8 115, .int .u8 101, .int .u8 116, .int .u8 32, .int .u8 97, .int .u8 32, .int .u8 120, .int .u8 32, .int .u8 48, .int .u8 32, .int .u8 49] 11 11 Tryz.underlying38 Tryz.underlying5)))
    | (go_at_call 33; go_must ((with_reducible refine (h8 (hE.kept hw4) _ _ _ _).mono ?_); rintro e w5 ⟨a5, n5, c5, rfl, hcv5, hg5, hc0, hc1, hc2⟩; (clear h8)))
    | (go_at_call 34; go_must ((with_reducible refine (num_4 _ _).mono ?_); rintro e w6 ⟨rfl, rfl⟩)))
  go_ret
  exact ⟨rfl, gb_trans hw4 hg5⟩
end Go.Proofs.YtobegepebochkaaGreatDoor
namespace Go.Proofs.YtobegepebochkaaGreatDoor
open Go.RowKit Go.Maps
theorem own_empty (w : World) : (w.alloc (.cells #[] 79)).ownsRow w.heap.size 79 3 (.slice (some ⟨w.heap.size, 0, none⟩) 0 0) 0 [] := by
  refine ⟨rfl, .inr ⟨w.heap.size, 0, #[], rfl, ?_, ?_, ?_, ?_, ?_⟩⟩
  all_goals simp
  exact Option.some.inj ((Array.getElem?_eq_getElem _).symm.trans (heap_alloc_new w (.cells #[] 79)))
abbrev mk : Fl := ⟨109, [109, 97, 114, 107], false⟩
end Go.Proofs.YtobegepebochkaaGreatDoor
namespace Go.Proofs.YtobegepebochkaaGreatDoor
open Go.RowKit Go.Maps
structure CbOk (w : World) (x : CI) : Prop where
  ok : CiOk w x
  bw : Bw w x.dv x.d
  fi : Fi w x.mv x.c.mt
  kn : x.c.keys.length ≤ 10000000
  mn : x.c.mt.length ≤ 1000000
  fl : ∀ f ∈ x.c.mt, f.arg.length ≤ 1099511627776
  ln : ∀ i, i < 24 → (lnB i x.c x.d.length).length ≤ 1000000000
def Wb (w wr : World) (K : Nat) : Prop := ∃ FB, BokC wr w.heap.size FB K ∧ (∀ k, FB k → w.heap.size ≤ k) ∧ w.grownBy wr none
theorem Wb.gb {w wr : World} {K : Nat} (h : Wb w wr K) : w.grownBy wr none := by
  obtain ⟨_, _, _, h⟩ := h
  exact h
def Ag (w wd : World) (K : Nat) (l : Bs) (b : Value) : Prop := ∃ FB, BokC wd w.heap.size FB K ∧ (∀ k, FB k → w.heap.size ≤ k) ∧ w.grownBy wd none ∧ OwC wd w.heap.size b l ∧ ∀ k, b.ownBlock = some k → ¬ FB k
def Af (w wd : World) (K : Nat) (l : Bs) (a b : Value) : Prop := ∃ FB, BokC wd w.heap.size FB K ∧ (∀ k, FB k → w.heap.size ≤ k) ∧ w.grownBy wd none ∧ OwC wd w.heap.size a l ∧ OwC wd w.heap.size b l ∧ (∀ k, a.ownBlock = some k → ¬ FB k) ∧ ∀ k, b.ownBlock = some k → ¬ FB k ∧ a.ownBlock ≠ some k
theorem OwC.lt {w : World} {B : Nat} {v : Value} {l : Bs} (h : OwC w B v l) : ∀ k, v.ownBlock = some k → k < w.heap.size := fun k hk => (row_geC h.oC hk).2
theorem OwC.kp {w w' : World} {B : Nat} {v : Value} {l : Bs} {F : Nat → Prop} (h : OwC w B v l) (hk : Kp F w w') (hn : ∀ k, v.ownBlock = some k → ¬ F k) : OwC w' B v l := by
  rcases id h with h1 | ⟨g, cap, cur, fz, rfl, hb, hg, rest⟩
  · exact .inl h1
  · exact .inr ⟨g, cap, cur, fz, rfl, hb, by rw [hk.block g (h.lt g rfl) (hn g rfl)]; exact hg, rest⟩
theorem OwC.len {w : World} {B n c : Nat} {a : Option Addr} {l : Bs} (h : OwC w B (.slice a n c) l) : n = l.length := by
  rcases h with ⟨e, rfl⟩ | ⟨g, cap, cur, fz, e, _⟩
  · injection e
  · injection e
theorem Af.put {w wd : World} {K : Nat} {l : Bs} {aa : Option Addr} {an ac : Nat} {b : Value} (h : Af w wd K l (.slice aa an ac) b) (hl : l.length ≤ 1000000) (hK : K < 1000000) :
    Calls Tryz.prog 20 #[.pointer (some ⟨w.heap.size, 0, none⟩), .slice aa an ac] wd fun y w' => y = .returned (.tuple #[]) ∧ Ag w w' (K + 1) l b := by
  obtain ⟨FB, hB, hlow, hg, ha, hb, haF, hbF⟩ := h
  have hn := ha.len
  subst hn
  refine (bokC_bytes hB hK (row_baseC ha.oC (Nat.zero_le _)) hl haF).mono ?_
  rintro y w' ⟨rfl, hk, FB', hB', hF'⟩
  refine ⟨rfl, FB', hB', fun k hk' => ?_, gb_of_kp hg hk hlow, hb.kp hk (fun k h1 => (hbF k h1).1), fun k h1 h2 => ?_⟩
  · rcases hF' k hk' with h | h | h
    · exact hlow k h
    · exact ha.low k h
    · exact Nat.le_trans hg.size h
  · rcases hF' k h2 with h | h | h
    · exact (hbF k h1).1 h
    · exact (hbF k h1).2 h
    · have := hb.lt k h1; omega
theorem Ag.put {w wd : World} {K : Nat} {l : Bs} {aa : Option Addr} {an ac : Nat} (h : Ag w wd K l (.slice aa an ac)) (hl : l.length ≤ 1000000) (hK : K < 1000000) :
    Calls Tryz.prog 20 #[.pointer (some ⟨w.heap.size, 0, none⟩), .slice aa an ac] wd fun y w' => y = .returned (.tuple #[]) ∧ Wb w w' (K + 1) := by
  obtain ⟨FB, hB, hlow, hg, ha, haF⟩ := h
  have hn := ha.len
  subst hn
  refine (bokC_bytes hB hK (row_baseC ha.oC (Nat.zero_le _)) hl haF).mono ?_
  rintro y w' ⟨rfl, hk, FB', hB', hF'⟩
  refine ⟨rfl, FB', hB', fun k hk' => ?_, gb_of_kp hg hk hlow⟩
  rcases hF' k hk' with h | h | h
  · exact hlow k h
  · exact ha.low k h
  · exact Nat.le_trans hg.size h
theorem Wb.close {w wd : World} {K : Nat} (h : Wb w wd K) (hK : K < 1000000) :
    Calls Tryz.prog 22 #[.pointer (some ⟨w.heap.size, 0, none⟩)] wd fun y w' => y = .returned (.bool true) ∧ w.grownBy w' none := by
  obtain ⟨FB, hB, hlow, hg⟩ := h
  refine (close_22C hB hK).mono ?_
  rintro y w' ⟨rfl, hk⟩
  exact ⟨rfl, gb_of_kp hg hk hlow⟩
theorem LntG.kept0 {x2 x3 : Value} {w w' : World} {lb B g c : Nat} {D : Bs} (h : LntG x2 x3 w lb B g c D) (hg : w.grownBy w' none) : LntG x2 x3 w' lb B g c D := by
  obtain ⟨gl, cl, gw, cw, u, cu, h1, h2, h3, h4, h5, h6, h7⟩ := h
  have key : ∀ {e z m : Nat} {v : Value} {ys : List Value}, w.ownsRow B e z v m ys → w'.ownsRow B e z v m ys := fun hw => row_kept hw hg (by simp)
  exact ⟨gl, cl, gw, cw, u, cu, h1.kept hg (by simp), key h2, key h3, key h4, key h5, h6, h7⟩
theorem LtR.kept0 {x2 x3 : Value} {w w' : World} {B g c : Nat} {D : List Bs} (h : LtR x2 x3 w B g c D) (hg : w.grownBy w' none) : LtR x2 x3 w' B g c D := by
  obtain ⟨gl, cl, gw, cw, u, cu, h0, h1, h2, h3, h4, h5, h6, h7⟩ := h
  have key : ∀ {e z m : Nat} {v : Value} {ys : List Value}, w.ownsRow B e z v m ys → w'.ownsRow B e z v m ys := fun hw => row_kept hw hg (by simp)
  exact ⟨gl, cl, gw, cw, u, cu, h0, h1, key h2, key h3, key h4, key h5, h6, h7⟩
theorem LtR.ws {x2 x3 : Value} {w : World} {B g c : Nat} {ks m : List Bs} (h : LtR x2 x3 w B g c (ks ++ m)) : Ws w (.slice (some ⟨g, 0, none⟩) ks.length c) ks := by
  obtain ⟨gl, cl, gw, cw, u, cu, -, -, -, -, h4, -⟩ := h
  refine ws_row (B := B) (n := ks.length) ?_ rfl
  have := row_take h4 (m := ks.length) (by simp)
  simpa using this
theorem LntG.ck {x2 x3 : Value} {w : World} {lb B g c : Nat} {d m : Bs} (h : LntG x2 x3 w lb B g c (d ++ m)) : Ck w (fun _ => False) (.slice (some ⟨g, 0, none⟩) d.length c) d := by
  obtain ⟨gl, cl, gw, cw, u, cu, -, -, -, h4, -⟩ := h
  exact lent_ck (m := m) (by simpa using h4) _ (fun h => h)
theorem LntG.by_ {x2 x3 : Value} {w : World} {lb B g c : Nat} {d m : Bs} (h : LntG x2 x3 w lb B g c (d ++ m)) (hd : d.length ≤ 1000000) : By w (.slice (some ⟨g, 0, none⟩) d.length c) d := by
  obtain ⟨gl, cl, gw, cw, u, cu, -, -, -, h4, -⟩ := h
  refine by_row (B := B) ?_ (by omega)
  have := row_take h4 (m := d.length) (by simp)
  simpa using this
theorem LntG.low {x2 x3 : Value} {w : World} {lb B g c : Nat} {D : Bs} (h : LntG x2 x3 w lb B g c D) : B ≤ g ∧ g < w.heap.size ∧ lb < w.heap.size := by
  obtain ⟨gl, cl, gw, cw, u, cu, h1, -, -, h4, -⟩ := h
  exact ⟨(row_ge h4 (j := g) rfl).1, (row_ge h4 (j := g) rfl).2, h1.lt⟩
theorem LtR.low {x2 x3 : Value} {w : World} {B g c : Nat} {D : List Bs} (h : LtR x2 x3 w B g c D) : B ≤ g ∧ g < w.heap.size := by
  obtain ⟨gl, cl, gw, cw, u, cu, -, -, -, -, h4, -⟩ := h
  exact row_ge h4 (j := g) rfl
theorem fg_row {w : World} {B : Nat} {v : Value} {fs : List Fl} (h : w.ownsRow B 79 3 v fs.length (fcs fs)) : Fg w v fs := by
  obtain ⟨ao, c, rfl, _, h2, _, h4⟩ := row_shape h
  rcases Nat.eq_zero_or_pos fs.length with h0 | h0
  · exact .inl ⟨List.length_eq_zero_iff.1 h0, _, _, by rw [h0]⟩
  · obtain ⟨g, rfl⟩ := h4 h0
    refine .inr ⟨g, 0, c, rfl, fun i f hi => ?_⟩
    obtain ⟨x, y, z⟩ := fcs_cells h i f hi
    rw [Nat.zero_add]
    exact ⟨x, y, z⟩
theorem CiOk.lent {w w' : World} {x : CI} (h : CiOk w x) {kl dl ml : Value} (hk : Ws w' kl x.c.keys) (hd : Ck w' (fun _ => False) dl x.d) (hm : Fg w' ml x.c.mt) : CiOk w' ⟨x.c, x.d, x.lg, kl, dl, ml⟩ :=
  ⟨hk, .inl hd, hm, h.r, h.f, h.v1, h.v2, h.dn, h.kn, h.mn, h.kl, h.fl⟩
theorem bsX_len {x : CI} (hd : x.d.length ≤ 65536) : (bsX x).length ≤ 70000 := by
  unfold bsX
  split
  · next h =>
    unfold mayX at h
    rw [Bool.and_eq_true, decide_eq_true_eq] at h
    have h3 := ((mayB_iff (i := (x.c.verb - 1).toNat) (by omega)).1 h.2).2.2
    generalize (x.c.verb - 1).toNat = i at *
    unfold bsB
    split <;> simp <;> omega
  · simp
end Go.Proofs.YtobegepebochkaaGreatDoor

import Derived.Lib.SlBytesConst
import Derived.Test.YtbbocbdoiealoaaGreatDoorRPbk
import Derived.Stop.LaidErr
import Derived.MakeChecks
import Derived.Test.YtbbocbdoiealoaaGreatDoorRows
import Derived.Test.YtbbocbdoiealoaaGreatDoorRD
import Derived.Great.Walk
import Derived.Deep.RegionHeld3
import Derived.Great.BuildSlice
import Derived.WalkKit
import Derived.ProofKit
import Derived.OpenShut
import Derived.Below
import Derived.Deep.Slices
import Derived.SizedLaws
import Derived.Test.YtbbocbdoiealoaaGreatDoorRPbp
import Derived.Test.YtbbocbdoiealoaaGreatDoorRPas
import Derived.Test.YtbbocbdoiealoaaGreatDoorRUb
import Derived.Test.YtbbocbdoiealoaaGreatDoorRWd
import Derived.Test.YtbbocbdoiealoaaGreatDoorRPbl
import Derived.Test.YtbbocbdoiealoaaGreatDoorRPbj
import Derived.Test.YtbbocbdoiealoaaGreatDoorRPbi
set_option linter.unusedVariables false
set_option linter.unusedSimpArgs false
namespace Go.Proofs.YtbbocbdoiealoaaGreatDoor
open Go.RowKit Go.Shelf
abbrev c1 : Cmd := ⟨5, [[97]], 5, 0, 0, 0, false, [], []⟩
abbrev c3 : Cmd := ⟨1, [[97], [98]], 0, 0, 0, 0, false, [], []⟩
theorem ls1 : lineS [115, 101, 116, 32, 97, 32, 53, 32, 48, 32, 48, 48, 55] = .inl (c1, 7) := by rfl
theorem ls2 : lineS [115, 101, 116, 32, 97, 32, 120, 32, 48, 32, 49] = .inr (2, badLine, 1) := by rfl
theorem ls3 : lineS [103, 101, 116, 32, 97, 32, 98] = .inl (c3, -1) := by rfl
theorem of3 : ofS 1 = some ([103, 101, 116], ⟨1, [75], [75], true, false⟩) := by rfl
theorem jn3 : Lib.join [[103, 101, 116], [97], [98]] [32] = [103, 101, 116, 32, 97, 32, 98] := by rfl
theorem by_const (w : World) (l : Bs) (C : Array Value) (fr : Nat × Nat) (hC : C = (l.map fun b => Value.int .u8 (b.toNat : Int)).toArray) (hl : l.length ≤ 1000) : By (w.alloc (.cells C 5 fr)) (.slice (some ⟨w.heap.size, 0, none⟩) l.length l.length) l := by
  refine .inr ⟨w.heap.size, 0, _, rfl, by omega, by simp, fun i x hx => ?_⟩
  rw [Nat.zero_add, cell_of_row _ _ _ _ _ _ (heap_alloc_new w (.cells C 5 fr)), hC]
  simp [hx]
theorem line1 {w : World} (hE : Er w) (v : Value) (hB : By w v [115, 101, 116, 32, 97, 32, 53, 32, 48, 32, 48, 48, 55]) :
    Calls Tryz.prog 17 #[v] w fun e w' => ∃ ka kb ma mb, e = .returned (.tuple #[.agg #[.int .i64 5, .slice ka 1 kb, .int .u64 5, .int .i64 0, .int .u64 0, .int .u64 0, .slice none 0 0, .bool false, .bool false, .slice ma 0 mb, .string ⟨#[]⟩], .int .i64 7, .agg #[.int .i64 0, .string ⟨#[]⟩, .int .i64 0]]) ∧ Ws w' (.slice ka 1 kb) [[97]] ∧ w.grownBy w' none := by
  refine (Line_6 hE v _ hB).mono ?_
  rintro e w' ⟨hL, hg⟩
  rcases hL with ⟨c', n, kv, mv, h1, h2, h3, h4⟩ | ⟨k, t, p, h1, _⟩
  · rw [ls1] at h1
    injection h1 with h1
    injection h1 with h5 h6
    subst h5 h6
    have hw := ws_row h3 rfl
    obtain ⟨ka, kb, rfl, _⟩ := row_shape h3
    obtain ⟨ma, mb, rfl, _⟩ := row_shape h4
    exact ⟨ka, kb, ma, mb, h2, hw, hg⟩
  · rw [ls1] at h1; cases h1
theorem line2 {w : World} (hE : Er w) (v : Value) (hB : By w v [115, 101, 116, 32, 97, 32, 120, 32, 48, 32, 49]) :
    Calls Tryz.prog 17 #[v] w fun e w' => e = .returned (.tuple #[.agg #[.int .i64 0, .slice none 0 0, .int .u64 0, .int .i64 0, .int .u64 0, .int .u64 0, .slice none 0 0, .bool false, .bool false, .slice none 0 0, .string ⟨#[]⟩], .int .i64 (-1), .agg #[.int .i64 2, .string ⟨#[98, 97, 100, 32, 99, 111, 109, 109, 97, 110, 100, 32, 108, 105, 110, 101, 32, 102, 111, 114, 109, 97, 116]⟩, .int .i64 1]]) ∧ w.grownBy w' none := by
  refine (Line_6 hE v _ hB).mono ?_
  rintro e w' ⟨hL, hg⟩
  rcases hL with ⟨c', n, kv, mv, h1, _⟩ | ⟨k, t, p, h1, h2⟩
  · rw [ls2] at h1; cases h1
  · rw [ls2] at h1
    injection h1 with h1
    injection h1 with h5 h6
    injection h6 with h6 h7
    subst h5 h6 h7
    exact ⟨h2, hg⟩
theorem bytes3 {w : World} (hE : Er w) (kg kc : Nat) (hkc : 2 ≤ kc) (hkg : kg < w.heap.size) (h0 : w.cell? ⟨kg, 0, none⟩ = some (sv [97])) (h1 : w.cell? ⟨kg, 1, none⟩ = some (sv [98])) :
    Calls Tryz.prog 35 #[.agg #[.int .i64 1, .slice (some ⟨kg, 0, none⟩) 2 kc, .int .u64 0, .int .i64 0, .int .u64 0, .int .u64 0, .slice none 0 0, .bool false, .bool false, .slice none 0 0, .string ⟨#[]⟩]] w fun e w' => ∃ a n c', e = .returned (.tuple #[.slice a n c', .int .i64 0]) ∧ By w' (.slice a n c') ([103, 101, 116, 32, 97, 32, 98] ++ [13, 10]) ∧ w.grownBy w' none := by
  have h := bytes_8 hE c3 [103, 101, 116] of3 rfl rfl kg 0 kc 0 0 none none (by decide) (by decide) hkc hkg (fun i x hx => by
    match i, hx with
    | 0, hx => injection hx with hx; subst hx; exact h0
    | 1, hx => injection hx with hx; subst hx; exact h1
    | n + 2, hx => simp at hx) (by rw [show Lib.join ([103, 101, 116] :: c3.keys) [32] = [103, 101, 116, 32, 97, 32, 98] from jn3]; decide) (by rw [show Lib.join ([103, 101, 116] :: c3.keys) [32] = [103, 101, 116, 32, 97, 32, 98] from jn3]; exact ls3)
  rw [show Lib.join ([103, 101, 116] :: c3.keys) [32] = [103, 101, 116, 32, 97, 32, 98] from jn3] at h
  refine h.mono ?_
  rintro e w' ⟨v, rfl, hB, hg⟩
  obtain ⟨a, c', rfl⟩ := hB.shape
  exact ⟨a, _, c', rfl, hB, hg⟩
theorem same1 {w : World} (ka : Option Addr) (kb : Nat) (ma : Option Addr) (mb g : Nat) (h1 : Ws w (.slice ka 1 kb) [[97]]) (hg : g < w.heap.size) (h2 : w.cell? ⟨g, 0, none⟩ = some (sv [97])) :
    Calls Tryz.prog 18 #[.agg #[.int .i64 5, .slice ka 1 kb, .int .u64 5, .int .i64 0, .int .u64 0, .int .u64 0, .slice none 0 0, .bool false, .bool false, .slice ma 0 mb, .string ⟨#[]⟩], .agg #[.int .i64 5, .slice (some ⟨g, 0, none⟩) 1 1, .int .u64 5, .int .i64 0, .int .u64 0, .int .u64 0, .slice none 0 0, .bool false, .bool false, .slice none 0 0, .string ⟨#[]⟩]] w fun e w' => e = .returned (.bool true) ∧ w.grownBy w' none :=
  same_16 c1 [] false (.slice ka 1 kb) (.slice (some ⟨g, 0, none⟩) 1 1) (.slice none 0 0) (.slice none 0 0) (.slice ma 0 mb) (.slice none 0 0) h1 (.inr ⟨g, 0, 1, rfl, by decide, hg, fun i x hx => by
    match i, hx with
    | 0, hx => injection hx with hx; subst hx; exact h2
    | n + 1, hx => simp at hx⟩) (by decide) (.inl ⟨rfl, _, _, rfl⟩) (.inl ⟨rfl, _, _, rfl⟩) (by decide) (.inl ⟨rfl, _, _, rfl⟩) (.inl ⟨rfl, _, _, rfl⟩)
theorem num_4 (z : Int) (w : World) : Calls Tryz.prog 36 #[.int .i64 z] w fun e w' => e = .returned (.int .i64 z) ∧ w' = w := by
  go_enter Tryz.func36, Tryz.ntmps36
  go_wp2
  go_ret
  exact ⟨rfl, rfl⟩
theorem same2 {w2 : World} {ka : Option Addr} {kb : Nat} (ma : Option Addr) (mb : Nat) (hW : Ws w2 (.slice ka 1 kb) [[97]]) (A B : Obj) :
    Calls Tryz.prog 18 #[.agg #[.int .i64 5, .slice ka 1 kb, .int .u64 5, .int .i64 0, .int .u64 0, .int .u64 0, .slice none 0 0, .bool false, .bool false, .slice ma 0 mb, .string ⟨#[]⟩], .agg #[.int .i64 5, .slice (some ⟨w2.heap.size + 1 + 1, 0, none⟩) 1 1, .int .u64 5, .int .i64 0, .int .u64 0, .int .u64 0, .slice none 0 0, .bool false, .bool false, .slice none 0 0, .string ⟨#[]⟩]] (((w2.alloc A).alloc B).alloc (.cells #[.string ⟨#[97]⟩] 9)) fun e w' => e = .returned (.bool true) ∧ w2.grownBy w' none := by
  have hn := heap_alloc_new ((w2.alloc A).alloc B) (.cells #[.string ⟨#[97]⟩] 9)
  have hs : ((w2.alloc A).alloc B).heap.size = w2.heap.size + 1 + 1 := by simp
  rw [hs] at hn
  have g3 : w2.grownBy (((w2.alloc A).alloc B).alloc (.cells #[.string ⟨#[97]⟩] 9)) none := gb_alloc (gb_alloc (gb_alloc (gb_refl w2 none) A) B) _
  have hlt := lt_of_block hn
  have hc : (((w2.alloc A).alloc B).alloc (.cells #[.string ⟨#[97]⟩] 9)).cell? ⟨w2.heap.size + 1 + 1, 0, none⟩ = some (sv [97]) := by
    rw [cell_of_row _ _ _ _ _ _ hn]; rfl
  have hW' := hW.kept g3
  generalize (((w2.alloc A).alloc B).alloc (.cells #[.string ⟨#[97]⟩] 9)) = w3 at *
  refine (same1 ka kb ma mb _ hW' hlt hc).mono ?_
  rintro e w' ⟨rfl, hg⟩
  exact ⟨rfl, gb_trans g3 hg⟩
theorem bytes4 {w4 : World} (hE : Er w4) (A : Obj) (b0 b1 b2 : Value) :
    Calls Tryz.prog 35 #[.agg #[.int .i64 1, .slice (some ⟨w4.heap.size + 1 + 1, 0, none⟩) 2 2, .int .u64 0, .int .i64 0, .int .u64 0, .int .u64 0, .slice none 0 0, .bool false, .bool false, .slice none 0 0, .string ⟨#[]⟩]] (((w4.alloc A).alloc (.cells #[b0, b1, b2] 43)).alloc (.cells #[.string ⟨#[97]⟩, .string ⟨#[98]⟩] 9)) fun e w' => ∃ a n c', e = .returned (.tuple #[.slice a n c', .int .i64 0]) ∧ (convert 38 9 (.slice a n c')).run Tryz.prog w' = .ok (.string ⟨#[103, 101, 116, 32, 97, 32, 98, 13, 10]⟩) w' ∧ w4.grownBy w' none ∧ w'.cell? ⟨w4.heap.size + 1, 0, none⟩ = some b0 ∧ w'.cell? ⟨w4.heap.size + 1, 1, none⟩ = some b1 ∧ w'.cell? ⟨w4.heap.size + 1, 2, none⟩ = some b2 := by
  have hn := heap_alloc_new ((w4.alloc A).alloc (.cells #[b0, b1, b2] 43)) (.cells #[.string ⟨#[97]⟩, .string ⟨#[98]⟩] 9)
  have hs : ((w4.alloc A).alloc (.cells #[b0, b1, b2] 43)).heap.size = w4.heap.size + 1 + 1 := by simp
  rw [hs] at hn
  have hm := heap_alloc_new (w4.alloc A) (.cells #[b0, b1, b2] 43)
  have hs' : (w4.alloc A).heap.size = w4.heap.size + 1 := by simp
  rw [hs'] at hm
  have g0 := gb_alloc (gb_refl ((w4.alloc A).alloc (.cells #[b0, b1, b2] 43)) none) (.cells #[.string ⟨#[97]⟩, .string ⟨#[98]⟩] 9)
  have c0 : ((w4.alloc A).alloc (.cells #[b0, b1, b2] 43)).cell? ⟨w4.heap.size + 1, 0, none⟩ = some b0 := by rw [cell_of_row _ _ _ _ _ _ hm]; rfl
  have c1 : ((w4.alloc A).alloc (.cells #[b0, b1, b2] 43)).cell? ⟨w4.heap.size + 1, 1, none⟩ = some b1 := by rw [cell_of_row _ _ _ _ _ _ hm]; rfl
  have c2 : ((w4.alloc A).alloc (.cells #[b0, b1, b2] 43)).cell? ⟨w4.heap.size + 1, 2, none⟩ = some b2 := by rw [cell_of_row _ _ _ _ _ _ hm]; rfl
  have g3 : w4.grownBy (((w4.alloc A).alloc (.cells #[b0, b1, b2] 43)).alloc (.cells #[.string ⟨#[97]⟩, .string ⟨#[98]⟩] 9)) none := gb_alloc (gb_alloc (gb_alloc (gb_refl w4 none) A) _) _
  have d0 := gb_cellN g0 c0
  have d1 := gb_cellN g0 c1
  have d2 := gb_cellN g0 c2
  have hlt := lt_of_block hn
  have hc0 : (((w4.alloc A).alloc (.cells #[b0, b1, b2] 43)).alloc (.cells #[.string ⟨#[97]⟩, .string ⟨#[98]⟩] 9)).cell? ⟨w4.heap.size + 1 + 1, 0, none⟩ = some (sv [97]) := by
    rw [cell_of_row _ _ _ _ _ _ hn]; rfl
  have hc1 : (((w4.alloc A).alloc (.cells #[b0, b1, b2] 43)).alloc (.cells #[.string ⟨#[97]⟩, .string ⟨#[98]⟩] 9)).cell? ⟨w4.heap.size + 1 + 1, 1, none⟩ = some (sv [98]) := by
    rw [cell_of_row _ _ _ _ _ _ hn]; rfl
  clear g0 c0 c1 c2 hn hm
  generalize (((w4.alloc A).alloc (.cells #[b0, b1, b2] 43)).alloc (.cells #[.string ⟨#[97]⟩, .string ⟨#[98]⟩] 9)) = w3 at *
  refine (bytes3 (hE.kept g3) _ 2 (by decide) hlt hc0 hc1).mono ?_
  rintro e w' ⟨a, n, c', rfl, hB, hg⟩
  exact ⟨a, n, c', rfl, hB.conv, gb_trans g3 hg, gb_cellN hg d0, gb_cellN hg d1, gb_cellN hg d2⟩
set_option maxRecDepth 100000 in
set_option maxHeartbeats 4000000 in
theorem wakes_5 {w : World} (hE : Er w) : Calls Tryz.prog 26 #[] w fun e w' => e = .returned (.bool true) ∧ w.grownBy w' none := by
  have hcv1 := Lib.run_convert_bytes_const (P := Tryz.prog) w 38 5 #[.int .u8 115, .int .u8 101, .int .u8 116, .int .u8 32, .int .u8 97, .int .u8 32, .int .u8 53, .int .u8 32, .int .u8 48, .int .u8 32, .int .u8 48, .int .u8 48, .int .u8 55] 13 13 Tryz.underlying38 Tryz.underlying5
  have g1 := gb_alloc (gb_refl w none) (.cells #[.int .u8 115, .int .u8 101, .int .u8 116, .int .u8 32, .int .u8 97, .int .u8 32, .int .u8 53, .int .u8 32, .int .u8 48, .int .u8 32, .int .u8 48, .int .u8 48, .int .u8 55] 5 (13, 14))
  have h6 := line1 (hE.kept g1) (.slice (some ⟨w.heap.size, 0, none⟩) 13 13) (by_const w [115, 101, 116, 32, 97, 32, 53, 32, 48, 32, 48, 48, 55] #[.int .u8 115, .int .u8 101, .int .u8 116, .int .u8 32, .int .u8 97, .int .u8 32, .int .u8 53, .int .u8 32, .int .u8 48, .int .u8 32, .int .u8 48, .int .u8 48, .int .u8 55] (13, 14) rfl (by decide))
  have h7 := @same2
  have h8 := @bytes4
  have hl2 : ∀ {w3 : World}, Er w3 → Calls Tryz.prog 17 #[.slice (some ⟨w3.heap.size, 0, none⟩) 11 11] (w3.alloc (.cells #[.int .u8 115, .int .u8 101, .int .u8 116, .int .u8 32, .int .u8 97, .int .u8 32, .int .u8 120, .int .u8 32, .int .u8 48, .int .u8 32, .int .u8 49] 5 (11, 12))) _ := fun {w3} hE3 => line2 (hE3.kept (gb_alloc (gb_refl w3 none) _)) (.slice (some ⟨w3.heap.size, 0, none⟩) 11 11) (by_const w3 [115, 101, 116, 32, 97, 32, 120, 32, 48, 32, 49] #[.int .u8 115, .int .u8 101, .int .u8 116, .int .u8 32, .int .u8 97, .int .u8 32, .int .u8 120, .int .u8 32, .int .u8 48, .int .u8 32, .int .u8 49] (11, 12) rfl (by decide))
  go_enter Tryz.func26, Tryz.ntmps26
  go_wp2_with (first
    | (go_at_call 17; go_must (first | ((with_reducible refine h62.mono ?_); rintro e w4 ⟨rfl, hg4⟩; (clear h62 hcv2); (have hw4 := gb_trans (gb_trans hw2 hg3) (gb_trans (gb_alloc (gb_refl w3 none) _) hg4))) | ((with_reducible refine h6.mono ?_); rintro e w2 ⟨ka, kb, ma, mb, rfl, hW2, hg2⟩; (clear h6 hcv1); (have hE2 := hE.kept (gb_trans g1 hg2)); (have hw2 := gb_trans g1 hg2))))
    | (go_at_call 18; go_must ((with_reducible refine (h7 ma mb hW2 _ _).mono ?_); rintro e w3 ⟨rfl, hg3⟩; (clear h7); (have hE3 := hE2.kept hg3); (have h62 := hl2 hE3); (have hcv2 := Lib.run_convert_bytes_const (P := Tryz.prog) w3 38 5 #[.int .u8 115, .int .u8 101, .int .u8 116, .int .u8 32, .int .u8 97, .int .u8 32, .int .u8 120, .int .u8 32, .int .u8 48, .int .u8 32, .int .u8 49] 11 11 Tryz.underlying38 Tryz.underlying5)))
    | (go_at_call 35; go_must ((with_reducible refine (h8 (hE.kept hw4) _ _ _ _).mono ?_); rintro e w5 ⟨a5, n5, c5, rfl, hcv5, hg5, hc0, hc1, hc2⟩; (clear h8)))
    | (go_at_call 36; go_must ((with_reducible refine (num_4 _ _).mono ?_); rintro e w6 ⟨rfl, rfl⟩)))
  go_ret
  exact ⟨rfl, gb_trans hw4 hg5⟩
end Go.Proofs.YtbbocbdoiealoaaGreatDoor
namespace Go.Proofs.YtbbocbdoiealoaaGreatDoor
open Go Go.RowKit Go.Shelf
theorem gES : Tryz.prog.globalNamed "strconv.ErrSyntax" = some 2 := by kernel_rfl
theorem gER : Tryz.prog.globalNamed "strconv.ErrRange" = some 3 := by kernel_rfl
theorem gEST : (Tryz.prog.globals[2]?).map (·.type) = some 204 := by kernel_rfl
theorem gERT : (Tryz.prog.globals[3]?).map (·.type) = some 204 := by kernel_rfl
theorem cellsErr : Tryz.prog.cellsOf 251 = 1 := by kernel_rfl
theorem cells9 : Tryz.prog.cellsOf 9 = 1 := by kernel_rfl
theorem rowErr (u : TypeId) (h : Tryz.prog.typeName? 3 u = Tryz.prog.typeName? 3 249) : u = 249 :=
  typeName_ptr_named (nm := "errors.errorString") (by kernel_rfl) (by kernel_rfl) (by decide) u (h.trans (by kernel_rfl))
end Go.Proofs.YtbbocbdoiealoaaGreatDoor
namespace Go.Proofs.YtbbocbdoiealoaaGreatDoor
open Go.ChangeShapes Go.WideShapes Go.ChangeAt Go.RowKit Go.Shelf
section
variable {H : Type} {enc : TypeId × Value → H} {P : Program} {w : World} {base : Nat} {spare : Nat → Bool} {held : Bool}
end
section
variable {H : Type} {enc : TypeId × Value → H} {w : World} {base : Nat} {spare : Nat → Bool} {held : Bool}
end
theorem bls_flat (f : UInt8 → List Bs) (m : Nat) : ∀ l : Bs, (∀ a ∈ l, (bls (f a)).length ≤ m) → (bls (l.flatMap f)).length ≤ l.length * m := flat_bound f m
theorem lnB_bulk {i : Nat} (hi : i < 24) {c : Cmd} (hr : RngP c) (hf : c.flags ≤ 18446744073709551615) {n : Nat} (hn : n ≤ 18446744073709551615) (hk : (bls c.keys).length ≤ 1048576) (hm : (bls (c.mt.map fw)).length ≤ 1048576) (hw : c.what.length ≤ 1048576) : (lnB i c n).length ≤ 1000000000 := by
  have key : ∀ a ∈ (dr i).shape, (bls (lw c n a)).length ≤ 2000000 := by
    intro a ha
    have hin := shape_in i hi a ha
    simp only [List.mem_cons, List.not_mem_nil, or_false] at hin
    rcases hin with rfl | rfl | rfl | rfl | rfl | rfl | rfl | rfl | rfl | rfl | rfl
    · rw [show lw c n 75 = c.keys from rfl]; omega
    · have := one_bound _ _ (dg_20 c.flags hf)
      rw [show lw c n 70 = [dg c.flags] from rfl]; omega
    · have := one_bound _ _ (sg_21 c.exp hr.e1 hr.e2)
      rw [show lw c n 84 = [sg c.exp] from rfl]; omega
    · have := one_bound _ _ (dg_20 n hn)
      rw [show lw c n 78 = [dg n] from rfl]; omega
    · have := one_bound _ _ (dg_20 c.tok hr.tok)
      rw [show lw c n 67 = [dg c.tok] from rfl]; omega
    · have := one_bound _ _ (dg_20 c.del hr.del)
      rw [show lw c n 68 = [dg c.del] from rfl]; omega
    · have := one_bound [49] 1 (by decide)
      rw [show lw c n 86 = [[49]] from rfl]; omega
    · have := one_bound _ _ hw
      rw [show lw c n 87 = (if c.what = [] then [] else [c.what]) from rfl]
      split
      · rw [nil_bound]; omega
      · omega
    · rw [show lw c n 71 = c.mt.map fw from rfl]; omega
    · have := one_bound _ _ (sg_21 c.exp hr.e1 hr.e2)
      rw [show lw c n 83 = (if c.exp = 0 then [] else [sg c.exp]) from rfl]
      split
      · rw [nil_bound]; omega
      · omega
    · rw [show lw c n 90 = [] from rfl, nil_bound]; omega
  have h1 := bls_flat (lw c n) 2000000 (dr i).shape key
  have h2 : (dr i).shape.length ≤ 20 := Nat.le_trans (shape_len i hi) (by omega)
  have h3 := spn_len i hi
  unfold lnB lws
  rw [bls_app, List.length_append, List.length_append]
  have h4 : (bls (nrW c.nr)).length ≤ 20 := by cases c.nr <;> decide
  have : (dr i).shape.length * 2000000 ≤ 20 * 2000000 := Nat.mul_le_mul_right _ h2
  omega
section
variable {H : Type} {enc : TypeId × Value → H} {w : World} {base : Nat} {spare : Nat → Bool} {held : Bool}
end
end Go.Proofs.YtbbocbdoiealoaaGreatDoor
